/-
  Package rule's lines: what the iterator hands out: the words of each server's line, then those of each rule's. Conditions: those of the rows; what the program's text has laid (Env19).
  Package rule's Right: a policy may be if its lines, read again, tell it. Conditions: those of the rows; what the program's text has laid (Env19).
  What is parsed may be: a policy that may be, laid in memory, is told by the lines that the program tells of it. Pure.
  The laws' own parsed: a text's policy. Conditions: the text's length; what the program's text has laid (Env19).
  The laws' own awake. Conditions: what the program's text has laid (Env19).
  A text parsed, as the laws of stage 19 ask it: a policy, or an error at its place; numbers held below a bound. Conditions: the text's length; what the program's text has laid (Env19).
  The texts that RuleMany reads: so many rules, so many resolvers, and one more than may be. Pure.
  The texts that RulePorts reads. Pure.
  RulePorts, walked. Conditions: what the program's text has laid (Env19).
  The texts that RuleRefuses reads: each is wrong at its place, or tells one rule. Pure.
-/
import Derived.Test.YtoagfmonfgagbaaGreatDoorZ48
import Derived.Test.YtoagfmonfgagbaaGreatDoorZ24
import Derived.Test.YtoagfmonfgagbaaGreatDoorZ23
import Derived.Test.YtoagfmonfgagbaaGreatDoorZ04
import Derived.Test.YtoagfmonfgagbaaGreatDoorZ09
import Derived.Test.YtoagfmonfgagbaaGreatDoorZ35
namespace Go.Proofs.YtoagfmonfgagbaaGreatDoor
open Go.RowKit Go.Shelf
set_option maxRecDepth 100000

attribute [local go_sem] Oper.semAt_some

/-! ### Steps that call nothing, in the widest fence and in its rounds -/
section
variable {n : Nat} {ops : Array Oper} {rest : List Oper} {o : Oper} {a : Act} {w : World} {Q : Exit → Act → World → Prop}
theorem rows_wide {P : Program} {row : String} {args : Array Value} {R : Value → World → Prop} (h : Rows P row args w R) : RowsIn Fence.wide n P row args w R :=
  fun c cs _ => let ⟨v, w', r, s⟩ := h c cs; ⟨v, w', r, stepsIn_wide.2 s⟩
theorem wp_wide {P : Program} {K : Act → World → Prop} (h : o.wp P a w K Q) : o.wpIn Fence.wide n P a w K Q := by
  refine ⟨fun _ _ => trivial, ?_⟩
  unfold Oper.wp at h
  show o.uponIn Fence.wide n P a K Q ((execOp a.eval o).run P w)
  revert h
  generalize (execOp a.eval o).run P w = r
  intro h
  cases r with
  | ok x w' => cases x <;> first | exact h | exact ⟨fun e => (by cases e), callsIn_wide.2 h⟩ | exact ⟨fun e => (by cases e), rows_wide h⟩ | exact h.elim
  | halt s w' => cases s <;> first | exact h | exact h.elim
theorem wp_round {P : Program} {l : Nat} {K : Act → World → Prop} (hd : ∀ c, o.op ≠ .defer c) (h : o.wp P a w K Q) : o.wpIn (Fence.wide.inRound l) n P a w K Q := by
  refine ⟨fun _ _ => trivial, ?_⟩
  have h1 := (wp_wide (n := n) h).2
  rw [Oper.semAt_eq _ _ _ hd] at h1 ⊢
  revert h1
  generalize (execOp a.eval o).run P w = r
  intro h1
  cases r with
  | ok x w' => cases x <;> exact h1
  | halt s w' => cases s <;> exact h1
theorem wpListIn_w {P : Program} (hg : o.guard = none) (h : ∀ K : Act → World → Prop, (∀ a w, wpListIn Fence.wide n P ops Q rest a w → K a w) → o.wp P a w K Q) : wpListIn Fence.wide n P ops Q (o :: rest) a w :=
  wpListIn_plain hg fun K hK => wp_wide (h K hK)
theorem wpListIn_r {P : Program} {l : Nat} (hg : o.guard = none) (hd : ∀ c, o.op ≠ .defer c) (h : ∀ K : Act → World → Prop, (∀ a w, wpListIn (Fence.wide.inRound l) n P ops Q rest a w → K a w) → o.wp P a w K Q) : wpListIn (Fence.wide.inRound l) n P ops Q (o :: rest) a w :=
  wpListIn_plain hg fun K hK => wp_round hd (h K hK)
end

/-- The lines of a policy in memory, as the program tells them. -/
def linesW (ss : List Ad19) (us : List Rw) : List (List (List UInt8)) := ss.map (fun a => [kwResolver, textv a.1 a.2]) ++ us.map wordsW
/-- Words, as a slice holds them. -/
def RdW (ws : List (List UInt8)) (v : Value) (W : World) : Prop := ∃ g, v = .slice (some ⟨g, 0, none⟩) ws.length ws.length ∧ 0 < ws.length ∧ Gs W (some ⟨g, 0, none⟩) ws.length ws.length (sv (mkSs ws)) ∧ ws.length ≤ 1000 ∧ ∀ u ∈ ws, u.length ≤ 1000000
theorem netv_43 (v6 : Bool) (a : List UInt8) (n : Int) : (textnetv v6 a n).length ≤ 43 := by
  unfold textnetv
  split
  · rename_i h
    unfold rightnetv at h
    simp only [Bool.and_eq_true, decide_eq_true_eq] at h
    have h1 := wid_le v6
    have h2 := textv_39 v6 a
    have h3 := dec_len 3 n.toNat (by omega) (by decide)
    rw [List.length_append, List.length_append]
    simp only [List.length_cons, List.length_nil]
    omega
  · simp
theorem s_small (a : Ad19) : ∀ u ∈ [kwResolver, textv a.1 a.2], u.length ≤ 1000000 := by
  have h1 := textv_39 a.1 a.2
  intro u hu
  rcases List.mem_cons.1 hu with rfl | hu
  · decide
  · rw [List.mem_singleton.1 hu]; omega
theorem r_small {x : Rw} (hx : x.fit) : ∀ u ∈ wordsW x, u.length ≤ 1000000 := by
  have h1 := netv_43 x.v6 x.adr x.bits
  have h2 := hx.name
  have h3 := itoa_len x.low (by have := hx.low; omega) (by have := hx.low; omega)
  have h4 := itoa_len x.high (by have := hx.high; omega) (by have := hx.high; omega)
  have p1 : (protoTx x.proto).length ≤ 4 := by
    unfold protoTx
    split
    · decide
    · split
      · decide
      · split
        · decide
        · split <;> decide
  have p2 : (portsTx x.low x.high).length ≤ 300 := by
    unfold portsTx
    split
    · decide
    · split
      · omega
      · rw [List.length_append, List.length_cons]; omega
  intro u hu
  unfold wordsW at hu
  simp only [List.mem_cons, List.not_mem_nil, or_false] at hu
  rcases hu with rfl | rfl | rfl | rfl | rfl
  · split <;> decide
  · split <;> decide
  · split
    · omega
    · split
      · simp only [List.length_cons]; omega
      · omega
  · omega
  · omega
theorem gs_lit2 (w : World) (a b : List UInt8) : Gs (w.alloc (.cells #[.string (mkS a), .string (mkS b)] 9)) (some ⟨w.heap.size, 0, none⟩) 2 2 (sv (mkSs [a, b])) :=
  Gs.lit w (sv (mkSs [a, b])) 2 rfl (by unfold maxLen; omega) #[.string (mkS a), .string (mkS b)] rfl 9
/-- What a round keeps: the iterator's box; what lay ahead of all. -/
structure KpL (n0 q : Nat) (A B : World) : Prop where
  below : Below n0 A B
  box : B.heap[q]? = A.heap[q]?
theorem KpL.trans {n0 q : Nat} {A B C : World} (h : KpL n0 q A B) (k : KpL n0 q B C) : KpL n0 q A C := ⟨h.below.trans k.below, k.box.trans h.box⟩
theorem KpL.after {n0 q : Nat} {A B C : World} (h : KpL n0 q A B) (hn : n0 ≤ B.heap.size) (hq : q < B.heap.size) (k : Below B.heap.size B C) : KpL n0 q A C := ⟨h.below.trans (k.mono hn), (k.block q hq).trans h.box⟩

/-- What stays while the iterator runs. -/
structure Stay (w0 : World) (q : Nat) (A1 A2 : Option Addr) (n1 c1 n2 c2 : Nat) (ss : List Ad19) (us : List Rw) : Prop where
  s : A9S w0 A1 n1 c1 ss
  u : RwS w0 A2 n2 c2 us
  env : Env19 w0
  q : w0.heap.size ≤ q
  fit : ∀ x ∈ us, x.fit

set_option maxHeartbeats 4000000 in
theorem lines1_in (N : Nat) (l q : Nat) {w0 W : World} {A1 A2 : Option Addr} {n1 c1 n2 c2 : Nat} {ss : List Ad19} {us : List Rw} (hS : Stay w0 q A1 A2 n1 c1 n2 c2 ss us) (hW : Below w0.heap.size w0 W) (hq : RsBox W q (.slice A1 n1 c1) (.slice A2 n2 c2))
    (J Jx : List (List (List UInt8)) → World → Prop) (hJ : ∀ s A B, J s A → Below A.heap.size A B → J s B)
    (hY : ∀ pre ws v W1, (∃ k, pre = (linesW ss us).take k ∧ (linesW ss us)[k]? = some ws) → J pre W1 → RdW ws v W1 → YieldAt Fence.wide (N - 1) Tryz.prog l #[v] W1 fun e W2 => (e = .returned (.bool true) ∧ J (pre ++ [ws]) W2 ∧ KpL w0.heap.size q W1 W2) ∨ (e = .returned (.bool false) ∧ Jx (pre ++ [ws]) W2))
    (h0 : J [] W) : CallsIn Fence.wide N Tryz.prog 45 #[.func (.yield l) #[] #[], .pointer (some ⟨q, 0, none⟩)] W fun e W2 => (∃ v, e = .returned v) ∧
      ((∃ xs, xs = linesW ss us ∧ J xs W2) ∨ (∃ xs, (∃ k, xs = (linesW ss us).take k) ∧ Jx xs W2)) := by
  have k1 : W.cell? ⟨q, 0, none⟩ = some (.slice A1 n1 c1) := cell_of_row W q 0 _ _ _ hq
  have k2 : W.cell? ⟨q, 1, none⟩ = some (.slice A2 n2 c2) := cell_of_row W q 1 _ _ _ hq
  have hql : q < W.heap.size := (Array.getElem?_eq_some_iff.1 hq).1
  have hcap1 := hS.s.cap
  have hmax1 := hS.s.max
  have hcap2 := hS.u.cap
  have hmax2 := hS.u.max
  unfold maxLen at hmax1 hmax2
  have HQ := Lib.hid (And.intro hW hql)
  have HJ := Lib.hid hJ
  have HY := Lib.hid hY
  have HS := Lib.hid hS
  have K2 := Lib.hid k2
  have hls : (linesW ss us).length = n1 + n2 := by unfold linesW; rw [List.length_append, List.length_map, List.length_map, hS.s.len, hS.u.len]
  have HL := Lib.hid hls
  clear hY hJ hS hW k2 hql hls
  refine callsIn_of_wp Tryz.func45 rfl trivial ?_ rfl
  simp only [Tryz.ntmps45, List.size_toArray, List.length_cons, List.length_nil, Nat.reduceAdd, Nat.reduceSub, Array.replicate_succ, Array.replicate_zero, List.push_toArray, List.append_toArray, List.nil_append, List.cons_append]
  gi_wp2
  clear k1
  gi_loopw [10] (fun i wr => ∃ k : Nat, k ≤ n1 ∧ i = .int .i64 k ∧ Hid (J ((linesW ss us).take k) wr ∧ KpL w0.heap.size q W wr)) (fun i _ => n1 - (intOf i).toNat)
  case atStart => exact ⟨0, Nat.zero_le _, rfl, h0, ⟨Below.refl _ _, rfl⟩⟩
  case round =>
    obtain ⟨k, hk, rfl, HX⟩ := hrel
    by_cases hkn : k < n1
    · obtain ⟨x, hxk⟩ : ∃ x, ss[k]? = some x := ⟨ss[k]'(by have := HS.out.s.len; omega), List.getElem?_eq_getElem _⟩
      obtain ⟨b, off, hA, hrx⟩ := (HS.out.s.later (HQ.out.1.trans HX.out.2.below) (Nat.le_refl _)).here k x hxk
      subst hA
      have hox := HS.out.s.ok x (List.mem_of_getElem? hxk)
      have hlt : q < wr.heap.size := Nat.lt_of_lt_of_le HQ.out.2 (by have := HX.out.2.below.size; exact this)
      have hn0 : w0.heap.size ≤ wr.heap.size := (HQ.out.1.trans HX.out.2.below).size
      have hlx : (linesW ss us)[k]? = some [kwResolver, textv x.1 x.2] := by
        unfold linesW
        rw [List.getElem?_append_left (by rw [List.length_map, HS.out.s.len]; exact hkn), List.getElem?_map, hxk]
        rfl
      have HE := Lib.hid (And.intro hrx (And.intro hox (And.intro hlx (And.intro hlt hn0))))
      clear hrx hox hlx hlt hn0 hxk
      gi_wp2_with (first
        | (refine wpListIn_w rfl fun _ hK => wp_load_a9 (.tmp 12) rfl rfl HE.out.2.1 HE.out.1 (hK _ _ ?_); clear hK)
        | (refine wpListIn_w rfl fun _ hK => wp_alloc_ad rfl fun w2 a2 b2 z2 => hK _ _ ?_; clear hK; have H2 := Lib.hid (And.intro a2 b2); clear a2 b2 z2)
        | (refine wpListIn_w rfl fun _ hK => wp_store_addrc (.tmp 4) (.tmp 13) rfl (a9v x) (by exact adv_size x.1 HE.out.2.1) (by exact adv_one x.1 x.2) (c0 := adv false (List.replicate 16 0)) zero_addr rfl rfl H2.out.1.1 fun w3 a3 o3 z3 b3 => hK _ _ ?_; clear hK; have H3 := Lib.hid (And.intro (show AdBox w3 _ x.1 x.2 from ⟨a3, HE.out.2.1⟩) (b3 _ _ (Nat.le_refl _) H2.out.2)); clear a3 o3 z3 b3)
        | (refine wpListIn_w rfl fun _ hK => wp_load_a9 (b := wr.heap.size) (f := 0) (.tmp 4) rfl rfl HE.out.2.1 H3.out.1.range (hK _ _ ?_); clear hK)
        | (refine ⟨trivial, fun e => (by cases e), ?_⟩; gi_at_call 46; refine (callsIn_wide.2 (Text_any x.1 x.2 HE.out.2.1 ((HS.out.env.later ((HQ.out.1.trans HX.out.2.below).trans (H3.out.2.mono HE.out.2.2.2.2)) (Nat.le_refl _)).env))).mono ?_; rintro e w5 ⟨rfl, b5⟩; have H5 := Lib.hid (H3.out.2.trans (b5.mono H3.out.2.size)); clear b5; obtain ⟨fn, tmps, assign, body, hy, hR⟩ := HY.out ((linesW ss us).take k) _ _ _ ⟨k, rfl, HE.out.2.2.1⟩ (HJ.out _ _ _ HX.out.1 (H5.out.alloc H5.out.size _)) (show RdW [kwResolver, textv x.1 x.2] (.slice (some ⟨w5.heap.size, 0, none⟩) 2 2) (w5.alloc (.cells #[.string ⟨#[114, 101, 115, 111, 108, 118, 101, 114]⟩, .string (mkS (textv x.1 x.2))] 9)) from ⟨w5.heap.size, rfl, Nat.zero_lt_two, gs_lit2 w5 kwResolver (textv x.1 x.2), by show 2 ≤ 1000; decide, s_small x⟩); have HR := Lib.hid hR; clear hR))
      refine ⟨fun e => (by cases e), ?_⟩
      refine HR.out.mono ?_
      have hB := (HX.out.2.after HE.out.2.2.2.2 HE.out.2.2.2.1 (H5.out.alloc H5.out.size (.cells #[.string ⟨#[114, 101, 115, 111, 108, 118, 101, 114]⟩, .string (mkS (textv x.1 x.2))] 9)))
      have hT := List.take_add_one (l := linesW ss us) (i := k)
      rw [HE.out.2.2.1] at hT
      rintro e W3 (⟨rfl, hJ3, hk3⟩ | ⟨rfl, hJx3⟩)
      · have HW := Lib.hid (And.intro hJ3 (And.intro (hB.trans hk3) hT))
        clear hJ3 hk3 hB hT hy
        gi_wp2
        exact ⟨⟨k + 1, hkn, by go_num, by rw [HW.out.2.2]; exact HW.out.1, HW.out.2.1⟩, by simp [intOf]; omega⟩
      · have HW := Lib.hid (And.intro hJx3 hT)
        clear hJx3 hB hT hy
        gi_wp2
        refine bodyPost_ret (results_none rfl _ _ _) rfl ?_
        exact ⟨⟨_, rfl⟩, .inr ⟨_, ⟨k + 1, rfl⟩, by rw [HW.out.2]; exact HW.out.1⟩⟩
    · obtain rfl : k = n1 := by omega
      have g2 : wr.cell? ⟨q, 1, none⟩ = some (.slice A2 n2 c2) := (World.cell?_of_block (w := W) (a := ⟨q, 1, none⟩) HX.out.2.box).trans K2.out
      gi_wp2
      clear g2
      gi_loopw [24] (fun i wr => ∃ j : Nat, j ≤ n2 ∧ i = .int .i64 j ∧ Hid (J ((linesW ss us).take (k + j)) wr ∧ KpL w0.heap.size q W wr)) (fun i _ => n2 - (intOf i).toNat)
      case atStart => exact ⟨0, Nat.zero_le _, rfl, HX.out⟩
      case round =>
        obtain ⟨j, hj, rfl, HX⟩ := hrel
        by_cases hjn : j < n2
        · obtain ⟨x, hxk⟩ : ∃ x, us[j]? = some x := ⟨us[j]'(by have := HS.out.u.len; omega), List.getElem?_eq_getElem _⟩
          obtain ⟨b, off, hA, hrx⟩ := (HS.out.u.later (HQ.out.1.trans HX.out.2.below) (Nat.le_refl _)).here j x hxk
          subst hA
          have hox := HS.out.fit x (List.mem_of_getElem? hxk)
          have hlt : q < wr.heap.size := Nat.lt_of_lt_of_le HQ.out.2 (by have := HX.out.2.below.size; exact this)
          have hn0 : w0.heap.size ≤ wr.heap.size := (HQ.out.1.trans HX.out.2.below).size
          have hlx : (linesW ss us)[k + j]? = some (wordsW x) := by
            unfold linesW
            rw [List.getElem?_append_right (by rw [List.length_map, HS.out.s.len]; omega), List.length_map, HS.out.s.len, Nat.add_sub_cancel_left, List.getElem?_map, hxk]
            rfl
          have HE := Lib.hid (And.intro hrx (And.intro hox (And.intro hlx (And.intro hlt hn0))))
          clear hrx hox hlx hlt hn0 hxk
          gi_wp2_with (first
            | (refine wpListIn_w rfl fun _ hK => wp_load_rw (.tmp 26) rfl rfl HE.out.2.1.ok HE.out.1 (hK _ _ ?_); clear hK)
            | (refine wpListIn_w rfl fun _ hK => wp_alloc_rw rfl fun w2 a2 b2 z2 => hK _ _ ?_; clear hK; have H2 := Lib.hid (And.intro a2 b2); clear a2 b2 z2)
            | (refine wpListIn_w rfl fun _ hK => wp_store_rw (.tmp 6) (.tmp 27) rfl x rfl rfl HE.out.2.1.ok H2.out.1 fun w3 a3 o3 z3 b3 => hK _ _ ?_; clear hK; have H3 := Lib.hid (And.intro a3 (b3 _ _ (Nat.le_refl _) H2.out.2)); clear a3 o3 z3 b3)
            | (refine wpListIn_w rfl fun _ hK => wp_load_rw (b := wr.heap.size) (f := 0) (.tmp 6) rfl rfl HE.out.2.1.ok H3.out.1.range (hK _ _ ?_); clear hK)
            | (refine ⟨trivial, fun e => (by cases e), ?_⟩; gi_at_call 47; refine (callsIn_wide.2 (wordsOf19 x HE.out.2.1 (HS.out.env.later ((HQ.out.1.trans HX.out.2.below).trans (H3.out.2.mono HE.out.2.2.2.2)) (Nat.le_refl _)))).mono ?_; rintro e w5 ⟨g, rfl, hg5, b5⟩; have H5 := Lib.hid (H3.out.2.trans (b5.mono H3.out.2.size)); clear b5; obtain ⟨fn, tmps, assign, body, hy, hR⟩ := HY.out ((linesW ss us).take (k + j)) _ _ _ ⟨k + j, rfl, HE.out.2.2.1⟩ (HJ.out _ _ _ HX.out.1 H5.out) (show RdW (wordsW x) (.slice (some ⟨g, 0, none⟩) 5 5) w5 from ⟨g, rfl, Nat.zero_lt_succ 4, hg5, by show 5 ≤ 1000; decide, r_small HE.out.2.1⟩); have HR := Lib.hid hR; clear hR hg5))
          refine ⟨fun e => (by cases e), ?_⟩
          refine HR.out.mono ?_
          have hB := (HX.out.2.after HE.out.2.2.2.2 HE.out.2.2.2.1 H5.out)
          have hT := List.take_add_one (l := linesW ss us) (i := k + j)
          rw [HE.out.2.2.1] at hT
          rintro e W3 (⟨rfl, hJ3, hk3⟩ | ⟨rfl, hJx3⟩)
          · have HW := Lib.hid (And.intro hJ3 (And.intro (hB.trans hk3) hT))
            clear hJ3 hk3 hB hT hy
            gi_wp2
            exact ⟨⟨j + 1, hjn, by go_num, by rw [← Nat.add_assoc, HW.out.2.2]; exact HW.out.1, HW.out.2.1⟩, by simp [intOf]; omega⟩
          · have HW := Lib.hid (And.intro hJx3 hT)
            clear hJx3 hB hT hy
            gi_wp2
            refine bodyPost_ret (results_none rfl _ _ _) rfl ?_
            exact ⟨⟨_, rfl⟩, .inr ⟨_, ⟨k + j + 1, rfl⟩, by rw [HW.out.2]; exact HW.out.1⟩⟩
        · obtain rfl : j = n2 := by omega
          have HF := Lib.hid HX.out.1
          gi_wp2
          go_end0
          refine ⟨⟨_, rfl⟩, .inl ⟨_, rfl, ?_⟩⟩
          have h1 := HF.out
          rw [List.take_of_length_le (Nat.le_of_eq HL.out)] at h1
          exact h1

/-- Package rule's lines: the policy is boxed; the function value captures the box. -/
theorem lines_in (N : Nat) (v1 v2 : Value) (w : World) : CallsIn Fence.wide N Tryz.prog 25 #[.agg (rsv v1 v2)] w fun e w' => e = .returned (.func (.func 45) #[] #[.pointer (some ⟨w.heap.size, 0, none⟩)]) ∧ w' = w.alloc (.cells (rsv v1 v2) 25) := by
  refine callsIn_of_wp Tryz.func25 rfl trivial ?_ rfl
  simp only [Tryz.ntmps25, List.size_toArray, List.length_cons, List.length_nil, Nat.reduceAdd, Nat.reduceSub, Array.replicate_succ, Array.replicate_zero, List.push_toArray, List.append_toArray, List.nil_append, List.cons_append]
  gi_wp2
  go_ret
  exact ⟨rfl, rfl⟩

/-- What lines promises, where its box lies. -/
theorem lines_hands (N q : Nat) {w0 w : World} {A1 A2 : Option Addr} {n1 c1 n2 c2 : Nat} {ss : List Ad19} {us : List Rw} (hS : Stay w0 q A1 A2 n1 c1 n2 c2 ss us) (hw : Below w0.heap.size w0 w) (hq : RsBox w q (.slice A1 n1 c1) (.slice A2 n2 c2)) :
    Hands Fence.wide N Tryz.prog 45 #[.pointer (some ⟨q, 0, none⟩)] RdW (KpL w0.heap.size q) (fun xs => xs = linesW ss us) (fun xs => ∃ k, xs = (linesW ss us).take k) w := fun l J Jx _ hW hJ _ hY h0 =>
  lines1_in N l q hS (hw.trans (hW.mono hw.size)) ((hW.block q (Array.getElem?_eq_some_iff.1 hq).1).trans hq) J Jx hJ (fun pre ws v W1 _ hj hr => hY pre ws v W1 hj hr) h0
/-- .. and in which order. -/
theorem lines_handsP (N q : Nat) {w0 w : World} {A1 A2 : Option Addr} {n1 c1 n2 c2 : Nat} {ss : List Ad19} {us : List Rw} (hS : Stay w0 q A1 A2 n1 c1 n2 c2 ss us) (hw : Below w0.heap.size w0 w) (hq : RsBox w q (.slice A1 n1 c1) (.slice A2 n2 c2)) :
    HandsP Fence.wide N Tryz.prog 45 #[.pointer (some ⟨q, 0, none⟩)] (fun pre ws v W => RdW ws v W ∧ ∃ k, pre = (linesW ss us).take k ∧ (linesW ss us)[k]? = some ws) (KpL w0.heap.size q) (fun xs => xs = linesW ss us) (fun xs => ∃ k, xs = (linesW ss us).take k) w := fun l J Jx _ hW hJ _ hY h0 =>
  lines1_in N l q hS (hw.trans (hW.mono hw.size)) ((hW.block q (Array.getElem?_eq_some_iff.1 hq).1).trans hq) J Jx hJ (fun pre ws v W1 hp hj hr => hY pre ws v W1 hj ⟨hr, hp⟩) h0
end Go.Proofs.YtoagfmonfgagbaaGreatDoor

namespace Go.Proofs.YtoagfmonfgagbaaGreatDoor
open Go.RowKit Go.Shelf
set_option maxRecDepth 100000

attribute [local go_sem] Oper.semAt_some

/-- May these servers and rules be? As the program says it. -/
def rightW (ss : List Ad19) (us : List Rw) : Bool := match foldT fx noneR (linesW ss us) with
  | none => false
  | some t => decide (t.servers = ss) && decide (t.rules.map rwR = us)

/-! ### What turns and what stays -/
theorem own_cells {w : World} {base : Nat} {e : TypeId} {s : Nat} {v : Value} {n : Nat} {xs : List Value} (h : w.ownsRow base e s v n xs) {i : Nat} (hi : v.ownBlock = some i) : ∃ o : Obj, w.heap[i]? = some o ∧ o.isCells = true := by
  rcases h.2 with ⟨rfl, _⟩ | ⟨g, cap, cur, rfl, _, hg, _⟩
  · cases hi
  · cases hi
    exact ⟨_, hg, rfl⟩
theorem RB.cells {w : World} {base g : Nat} {v1 v2 : Value} {r : Rs19} (h : RB w base g v1 v2 r) {i : Nat} (hi : Sg g v1 v2 i) : ∃ o : Obj, w.heap[i]? = some o ∧ o.isCells = true := by
  rcases hi with rfl | hi | hi
  · exact ⟨_, h.box, rfl⟩
  · exact own_cells h.s.1 hi
  · exact own_cells h.u.1 hi
theorem keeps_fr {S : Nat → Prop} {W W2 : World} (B : Nat) (h : Fr S W W2) (hc : ∀ i, i < W.heap.size → S i → ∃ o : Obj, W.heap[i]? = some o ∧ o.isCells = true) : KeepsFrom B W W2 :=
  ⟨h.size, fun k o _ hk ho => (h.block k (Array.getElem?_eq_some_iff.1 hk).1 fun hs => by
    obtain ⟨o2, h2, hc2⟩ := hc k (Array.getElem?_eq_some_iff.1 hk).1 hs
    rw [hk] at h2
    cases h2
    rw [ho] at hc2
    cases hc2).trans hk⟩

/-- Between two rounds: what was told so far. -/
def InvR (w1 : World) (g : Nat) (pre : List (List (List UInt8))) (W : World) : Prop := ∃ r v1 v2, foldT fx noneR pre = some r ∧ RightR fx r ∧ RB W g g v1 v2 r ∧ (∀ i, Sg g v1 v2 i → i ≠ g + 1) ∧ Below g w1 W ∧ W.heap[g + 1]? = w1.heap[g + 1]?
/-- A round has left: no words tell that line. -/
def OutR (w1 : World) (_ s : Nat) (pre : List (List (List UInt8))) (W : World) : Prop := foldT fx noneR pre = none ∧ Below s w1 W ∧ W.heap[s + 1]? = some (.cells #[.bool false] 4 (0, 0))
theorem inv_own {w1 : World} {g : Nat} {o1 : Obj} (hg : w1.heap[g + 1]? = some o1) (hc : o1.isCells = true) {B : Nat} (hgs : g ≤ w1.heap.size) (hB : g ≤ B) : OwnFrom B (InvR w1 g) := fun s X Y row hs hgr hr => by
  obtain ⟨r, v1, v2, h1, h2, h3, h4, h5, h6⟩ := hs
  have hr2 : ∀ j, row = some j → ∃ o : Obj, X.heap[j]? = some o ∧ o.isCells = false := fun j e => (hr j e).2
  refine ⟨r, v1, v2, h1, h2, h3.keep fun k _ hk => ?_, h4, ownFrom_below (β := Unit) hgs hB () X Y row h5 hgr hr, ?_⟩
  · obtain ⟨o, ho, hoc⟩ := h3.cells hk
    exact grownBy_keeps_cells hgr hr2 ho hoc
  · exact (grownBy_keeps_cells hgr hr2 (h6.trans hg) hc).trans h6
theorem out_own {w1 : World} {g s : Nat} {B : Nat} (hgs : s ≤ w1.heap.size) (hB : s ≤ B) : OwnFrom B (OutR w1 g s) := fun s X Y row hs hgr hr => by
  obtain ⟨h1, h2, h3⟩ := hs
  exact ⟨h1, ownFrom_below (β := Unit) hgs hB () X Y row h2 hgr hr, (grownBy_keeps_cells hgr (fun j e => (hr j e).2) h3 rfl).trans h3⟩
theorem wtks_text (ws : List (List UInt8)) : (wtks ws).map (·.text) = ws := by
  unfold wtks
  rw [List.map_map]
  exact List.map_id ws
theorem foldT_one {pre : List (List (List UInt8))} {ws : List (List UInt8)} {r : Rs19} (h : foldT fx noneR pre = some r) : foldT fx noneR (pre ++ [ws]) = lineT fx r ws := by
  rw [foldT_append, h, Option.bind_some]
  unfold foldT
  cases lineT fx r ws <;> rfl
theorem foldT_cut {ls : List (List (List UInt8))} {k : Nat} (h : foldT fx noneR (ls.take k) = none) : foldT fx (noneR : Rs19) ls = none := by
  rw [← List.take_append_drop k ls, foldT_append, h]
  rfl
theorem gs_of_rdw {ws : List (List UInt8)} {v : Value} {W : World} (h : RdW ws v W) (l : Nat) {o o2 : Obj} (hl : W.heap[l]? = some o) (ho : o.isCells = false) : RdW ws v (W.putObj l o2) := by
  obtain ⟨g, h1, h2, h3, h4⟩ := h
  refine ⟨g, h1, h2, ⟨h3.len, h3.cap, h3.max, h3.none_, fun hn => ?_⟩, h4⟩
  obtain ⟨b, off, hA, hx⟩ := h3.here hn
  exact ⟨b, off, hA, fun i x hi => cell_kept (hx i x hi) (grownBy_putObj' W l o2) (fun r e => by cases e; exact ⟨o, hl, ho⟩)⟩
theorem kpl_put {n0 q : Nat} {W : World} {l : Nat} {o o2 : Obj} (hn : n0 ≤ l) (hq : q < l) (_ : W.heap[l]? = some o) : KpL n0 q W (W.putObj l o2) :=
  ⟨⟨rfl, rfl, rfl, by simp, fun k hk => World.putObj_heap_other (by omega)⟩, World.putObj_heap_other (by omega)⟩

section
variable {o : Oper} {a : Act} {w : World} {Q : Exit → Act → World → Prop}
theorem wp_load_rs {K : Act → World → Prop} (x : Operand) (ho : o.op = .load 25 x) {g : Nat} {p q : Value} (hx : a.eval x = .pointer (some ⟨g, 0, none⟩)) (hA : RsBox w g p q)
    (h : K (a.put o.dst (.agg (rsv p q))) w) : o.wp Tryz.prog a w K Q :=
  wp_load_row 25 x ho g hx 25 (rsv p q) (0, 0) _ hA Tryz.underlying25 rfl (rs_size p q) h
end

theorem alloc3_0 {w : World} {s : Nat} (hs : w.heap.size = s) (c0 c1 c2 : Obj) : (((w.alloc c0).alloc c1).alloc c2).heap[s]? = some c0 := by
  subst hs
  exact (Below.heap_alloc _ _ _ (by simp; omega)).trans ((Below.heap_alloc _ _ _ (by simp)).trans (World.alloc_heap_new w c0))
theorem alloc3_1 {w : World} {s : Nat} (hs : w.heap.size = s) (c0 c1 c2 : Obj) : (((w.alloc c0).alloc c1).alloc c2).heap[s + 1]? = some c1 := by
  have h := World.alloc_heap_new (w.alloc c0) c1
  rw [World.size_alloc, hs] at h
  exact (Below.heap_alloc _ _ _ (by simp; omega)).trans h
theorem alloc3_2 {w : World} {s : Nat} (hs : w.heap.size = s) (c0 c1 c2 : Obj) : (((w.alloc c0).alloc c1).alloc c2).heap[s + 2]? = some c2 := by
  have h := World.alloc_heap_new ((w.alloc c0).alloc c1) c2
  rw [World.size_alloc, World.size_alloc, hs] at h
  exact h

theorem TkS.kept {w w2 : World} {A : Option Addr} {n c : Nat} {ts : List Tk} (h : TkS w A n c ts) (hk : ∀ b o, A = some ⟨b, o, none⟩ → w2.heap[b]? = w.heap[b]?) : TkS w2 A n c ts :=
  ⟨h.len, h.cap, h.max, h.none_, fun i q hq => by
    obtain ⟨b, off, hA, hr⟩ := h.here i q hq
    exact ⟨b, off, hA, fun j v hj => (World.cell?_of_block (w := w) (a := ⟨b, off + i * 4 + j, none⟩) (hk b off hA)).trans (hr j v hj)⟩⟩
theorem fr_set (W : World) (b : Nat) (v : Value) : Fr (fun i => i = b) W (W.setCell ⟨b, 0, none⟩ v) := ⟨rfl, rfl, rfl, by simp, fun k _ h => Below.heap_setCell _ _ _ _ h⟩
/-- The line's words, read: what tell is asked. -/
theorem pre_round {W w4 w5 : World} {s x g1 n : Nat} {ws : List (List UInt8)} {r : Rs19} {v1 v2 : Value} (i3 : RB W (s + 2) (s + 2) v1 v2 r) (i2 : RightR fx r) {w : World} (hE : Env19 w) (hws : w.heap.size = s) (hw : Below s w W) (htk : TkS w4 (some ⟨g1, 0, none⟩) n n (wtks ws)) (hlo : W.heap.size ≤ g1) (b4 : Below W.heap.size W w4) (hx : w4.heap.size = x) (hg1 : g1 < x)
    (hln : LnB w5 x (some ⟨g1, 0, none⟩) n n 0) (b5 : Below w4.heap.size w4 w5) (hsm : ∀ u ∈ ws, u.length ≤ 1000000) : Pre w5 (s + 2) (s + 2) x (some ⟨g1, 0, none⟩) n n 0 (wtks ws) v1 v2 r := by
  have hb := b4.trans (b5.mono b4.size)
  have hlt : ∀ i, Sg (s + 2) v1 v2 i → i < W.heap.size := fun i hi => i3.sg_lt hi
  have hxw : W.heap.size ≤ x := by rw [← hx]; exact b4.size
  refine ⟨hln, i3.later hb, fun hs => absurd (hlt _ hs) (by omega), by have := i3.lt; omega, fun w2 hf => ?_, fun w2 hf => ?_, fun t ht => ?_, ⟨Nat.le_trans i2.s20 (by omega), Nat.le_trans i2.r200 (by omega)⟩⟩
  · refine (htk.later b5 (Nat.le_refl _)).kept fun b o e => ?_
    cases e
    have h5 : g1 < w5.heap.size := by have := b5.size; omega
    refine hf.block g1 h5 fun hs => ?_
    rcases hs with rfl | hs
    · omega
    · have := hlt _ hs; omega
  · have hsz : s ≤ W.heap.size := by have := i3.lt; omega
    refine hE.later (B := s) (Fr.below (hw.trans (hb.mono hsz)) hf (fun i hi => ?_) (by have := b5.size; omega)) (Nat.le_of_eq hws)
    rcases hi with rfl | hi
    · omega
    · have := i3.sg_base hi; omega
  · unfold wtks at ht
    obtain ⟨u, hu, rfl⟩ := List.mem_map.1 ht
    exact hsm u hu

theorem results_bool {fn : Func} {p : Tmp} (h : fn.results = #[.cell p 4]) (tmps : Array Value) {w : World} {g : Nat} {b : Bool} (hp : tmps.getD p undef = .pointer (some ⟨g, 0, none⟩)) (hb : w.cell? ⟨g, 0, none⟩ = some (.bool b)) : (results fn tmps).run Tryz.prog w = .ok (.bool b) w := by
  have hp' : tmps[p]?.getD undef = .pointer (some ⟨g, 0, none⟩) := by simpa using hp
  simp [results, h, hp', asAddr]
  go_simp
  try simp

set_option maxHeartbeats 8000000 in
theorem right19_in {A1 A2 : Option Addr} {n1 c1 n2 c2 : Nat} {ss : List Ad19} {us : List Rw} {w : World} (h1 : A9S w A1 n1 c1 ss) (h2 : RwS w A2 n2 c2 us) (hE : Env19 w) (hf : ∀ x ∈ us, x.fit) :
    CallsIn Fence.wide 3 Tryz.prog 13 #[.agg (rsv (.slice A1 n1 c1) (.slice A2 n2 c2))] w fun e W2 => e = .returned (.bool (rightW ss us)) ∧ Below w.heap.size w W2 := by
  obtain ⟨s, hs⟩ : ∃ s, w.heap.size = s := ⟨_, rfl⟩
  obtain ⟨va, hva⟩ : ∃ va, Value.slice A1 n1 c1 = va := ⟨_, rfl⟩
  obtain ⟨vb, hvb⟩ : ∃ vb, Value.slice A2 n2 c2 = vb := ⟨_, rfl⟩
  have HS : Stay w (s + 3) A1 A2 n1 c1 n2 c2 ss us := ⟨h1, h2, hE, by omega, hf⟩
  have HSS := Lib.hid (And.intro HS (And.intro hva hvb))
  rw [hva, hvb]
  clear h1 h2 hE hf HS hva hvb
  have one1 : va.oneCell' = true := by rw [← HSS.out.2.1]; rfl
  have one2 : vb.oneCell' = true := by rw [← HSS.out.2.2]; rfl
  -- the world where the loop begins
  obtain ⟨W1, hW1⟩ : ∃ W1, (((w.alloc (.cells (rsv va vb) 25)).alloc (.cells #[.bool false] 4)).alloc (.cells #[.slice none 0 0, .slice none 0 0] 25)).alloc (.cells (rsv va vb) 25) = W1 := ⟨_, rfl⟩
  refine callsIn_of_wp_marks Tryz.func13 rfl trivial ?_ rfl
  simp only [Tryz.ntmps13, List.size_toArray, List.length_cons, List.length_nil, Nat.reduceAdd, Nat.reduceSub, Array.replicate_succ, Array.replicate_zero, List.push_toArray, List.append_toArray, List.nil_append, List.cons_append]
  gi_wp2_with (first
    | (refine ⟨trivial, ?_⟩; gi_at_call 25; refine (lines_in _ _ _ _).mono ?_; rintro e w' ⟨rfl, rfl⟩)
    | (refine wpListIn_w rfl fun _ hK => wp_load_rs (g := s) (p := va) (q := vb) (.tmp 1) rfl rfl (alloc3_0 hs _ _ _) (hK _ _ ?_); clear hK))
  have hz : W1.heap.size = s + 4 := by rw [← hW1]; simp [hs]
  have hb1 : Below s w W1 := by
    rw [← hW1]
    exact ((((Below.refl s w).alloc (by omega) _).alloc (by simp; omega) _).alloc (by simp; omega) _).alloc (by simp; omega) _
  have x0 : W1.heap[s]? = some (.cells (rsv va vb) 25 (0, 0)) := by rw [← hW1]; exact (Below.heap_alloc _ _ _ (by simp; omega)).trans (alloc3_0 hs _ _ _)
  have x1 : W1.heap[s + 1]? = some (.cells #[.bool false] 4 (0, 0)) := by rw [← hW1]; exact (Below.heap_alloc _ _ _ (by simp; omega)).trans (alloc3_1 hs _ _ _)
  have x2 : RsBox W1 (s + 2) (.slice none 0 0) (.slice none 0 0) := by
    show W1.heap[s + 2]? = _
    rw [← hW1]; exact (Below.heap_alloc _ _ _ (by simp; omega)).trans (alloc3_2 hs _ _ _)
  have x3 : RsBox W1 (s + 3) va vb := by
    show W1.heap[s + 3]? = _
    rw [← hW1]
    have h := World.alloc_heap_new (((w.alloc (.cells (rsv va vb) 25)).alloc (.cells #[.bool false] 4)).alloc (.cells #[.slice none 0 0, .slice none 0 0] 25)) (.cells (rsv va vb) 25)
    rw [World.size_alloc, World.size_alloc, World.size_alloc, hs] at h
    exact h
  clear hW1
  have HX := Lib.hid (And.intro x0 (And.intro x1 (And.intro hb1 hz)))
  have hands := lines_hands (N := 2) (s + 3) (w0 := w) (w := W1) HSS.out.1 (by rw [hs]; exact hb1) (by rw [HSS.out.2.1, HSS.out.2.2]; exact x3)
  rw [hs] at hands
  have h0 : InvR W1 (s + 2) [] W1 := ⟨noneR, .slice none 0 0, .slice none 0 0, rfl, right_none fx, ⟨x2, A9O.nil _ _, RwO.nil _ _, by simp [Value.ownBlock], by simp [Value.ownBlock], by simp [Value.ownBlock], Nat.le_refl _⟩, (fun i hi => by
    rcases hi with rfl | hi | hi
    · omega
    · cases hi
    · cases hi), Below.refl _ _, rfl⟩
  refine range_hands (F := Fence.wide) (n := 3) rfl (by decide) (f := 45) (lb := #[.pointer (some ⟨s + 3, 0, none⟩)]) rfl trivial (enters_of Tryz.func45 (by kernel_rfl) rfl)
    (Rd := RdW) (fun ws v W l o o2 _ hl ho h => gs_of_rdw h l hl ho) (Kp := KpL s (s + 3)) (fun A B C h k => h.trans k) (fun W l o o2 hl ho _ => kpl_put (by omega) (by omega) ho)
    hands (Below.refl _ _) (InvR W1 (s + 2)) (OutR W1 (s + 2) s) (inv_own x3 rfl (by omega) (by omega)) (out_own (by omega) (by omega)) h0
    (fun v => { tmps := #[.agg (rsv va vb), .pointer (some ⟨s, 0, none⟩), .pointer (some ⟨s + 1, 0, none⟩), .pointer (some ⟨s + 1 + 1, 0, none⟩), v, undef, undef, .agg (rsv va vb), .func (.func 45) #[] #[.pointer (some ⟨s + 1 + 1 + 1, 0, none⟩)], v, undef, undef, undef, undef, undef, undef, undef, undef, undef, undef, undef, undef, undef, undef, undef, undef, undef, undef], defers := [] }) ?assign ?body ?done ?stop
  case assign =>
    intro l v W K hK
    clear x0 x1 x2 x3 hands h0
    gi_wp2
    exact hK
  case body =>
    intro l pre ws v W hI hx
    clear x0 x1 x2 x3 hands h0 hb1
    obtain ⟨r, v1, v2, i1, i2, i3, i4, i5, i6⟩ := hI
    obtain ⟨gg, rfl, hpos, hgs, hle, hsm⟩ := hx
    obtain ⟨n, hn⟩ : ∃ n, ws.length = n := ⟨_, rfl⟩
    rw [hn] at hpos hgs hle ⊢
    have HI := Lib.hid (And.intro i1 (And.intro i2 (And.intro i3 (And.intro i4 (And.intro i5 i6)))))
    have HG := Lib.hid (And.intro hgs (And.intro hpos (And.intro hle hsm)))
    clear i1 i2 i3 i4 i5 i6 hgs hpos hle hsm hn
    gi_wp2_with (first
      | (refine ⟨trivial, ?_⟩; gi_at_call 29; refine (CallsIn.inRound l (callsIn_wide.2 (tokens19 HG.out.1 HG.out.2.1 HG.out.2.2.1))).mono ?_; rintro e w4 ⟨g1, rfl, htk, hlo, b4⟩; have H4 := Lib.hid (And.intro htk (And.intro hlo b4)); clear htk hlo b4)
      | (refine wpListIn_r rfl (fun c e => by cases e) fun _ hK => wp_alloc_ln rfl fun w5 a5 b5 z5 => hK _ _ ?_; clear hK; have H5 := Lib.hid (And.intro a5 b5); clear a5 b5 z5)
      | (refine wpListIn_r rfl (fun c e => by cases e) fun _ hK => wp_store_ln (.tmp 5) (.tmp 12) rfl _ _ _ 0 rfl rfl H5.out.1 fun w6 a6 o6 z6 b6 => hK _ _ ?_; clear hK; have H6 := Lib.hid (And.intro a6 (b6 _ _ (Nat.le_refl _) H5.out.2)); clear a6 o6 z6 b6))
    have hlo4 := H4.out.2.1
    have hg1 : g1 < w4.heap.size := by
      obtain ⟨t, ht⟩ : ∃ t, (wtks ws)[0]? = some t := ⟨_, List.getElem?_eq_getElem (by have := H4.out.1.len; have := HG.out.2.1; omega)⟩
      obtain ⟨b, off, e, hr⟩ := H4.out.1.here 0 t ht
      cases e
      exact lt_cell (hr 0 _ (by rw [List.getElem?_eq_getElem (by rw [Array.length_toList, tkv_size]; omega)]))
    have hsW : s + 4 ≤ W.heap.size := by have := HI.out.2.2.2.2.1.size; omega
    have hwW : Below s w W := HX.out.2.2.1.trans (HI.out.2.2.2.2.1.mono (by omega))
    have hp := pre_round HI.out.2.2.1 HI.out.2.1 HSS.out.1.env hs hwW H4.out.1 hlo4 H4.out.2.2 rfl hg1 H6.out.1 H6.out.2 HG.out.2.2.2
    have K := tell19 hp
    obtain ⟨L, hL⟩ : ∃ L, lineT fx r ws = L := ⟨_, rfl⟩
    rw [lineV_R, wtks_text, hL] at K
    have hb6 : Below W.heap.size W w6 := H4.out.2.2.trans (H6.out.2.mono H4.out.2.2.size)
    have hcl : ∀ i, Sg (s + 2) v1 v2 i → i < W.heap.size := fun i hi => HI.out.2.2.1.sg_lt hi
    have hbase : ∀ i, Sg (s + 2) v1 v2 i → s + 2 ≤ i := fun i hi => HI.out.2.2.1.sg_base hi
    have hq1 : W.heap[s + 1]? = some (.cells #[.bool false] 4 (0, 0)) := (HI.out.2.2.2.2.1.block (s + 1) (by omega)).trans HX.out.2.1
    have HB := Lib.hid (And.intro hsW (And.intro hwW (And.intro hb6 (And.intro hcl (And.intro hbase (And.intro hq1 hL))))))
    have H4' := Lib.hid H4.out.2.2.size
    clear hp hlo4 hg1 hsW hwW hb6 hcl hbase hq1 hL
    have HK := Lib.hid K
    clear K
    refine ⟨trivial, ?_⟩
    refine (CallsIn.inRound l (callsIn_wide.2 HK.out)).mono ?_
    clear HK
    rintro e w7 hT
    cases L with
    | none =>
      obtain ⟨⟨k, p⟩, hkp⟩ : ∃ q, lineE fx r 0 (wtks ws) = q := ⟨_, rfl⟩
      rw [hkp] at hT
      obtain ⟨hfr, er, rfl, gE, rfl, hgE⟩ := (show Told _ _ _ _ _ _ (.inl (k, p)) _ _ from hT)
      have hfr7 : Fr (fun i => i = s + 1 ∨ Sg (s + 2) v1 v2 i) W w7 := (Fr.of_below HB.out.2.2.1).trans hfr fun i hi h => by
        rcases h with rfl | h
        · have := H4'.out; omega
        · exact .inr h
      have hbx : Boxed w7 (s + 1) 4 (.bool false) := by
        have h1 : w6.heap[s + 1]? = _ := (HB.out.2.2.1.block (s + 1) (by have := HB.out.1; omega)).trans HB.out.2.2.2.2.2.1
        refine (hfr.block (s + 1) (Array.getElem?_eq_some_iff.1 h1).1 fun h => ?_).trans h1
        rcases h with h | h
        · have := H4'.out; have := HB.out.1; omega
        · have := HB.out.2.2.2.2.1 _ h; omega
      have HF := Lib.hid (And.intro hfr7 hbx)
      have f1 := hbx.cell
      have f2 := hbx.frozen
      clear hT hfr hfr7 hbx hgE hkp
      gi_wp2
      have hfz : Fr (fun i => i = s + 1 ∨ Sg (s + 2) v1 v2 i) W (w7.setCell ⟨s + 1, 0, none⟩ (.bool false)) := HF.out.1.trans (fr_set w7 (s + 1) _) fun i _ h => .inl h
      refine ⟨keeps_fr _ hfz fun i _ h => ?_, ?_, ?_, HF.out.2.set _⟩
      · rcases h with rfl | h
        · exact ⟨_, HB.out.2.2.2.2.2.1, rfl⟩
        · exact HI.out.2.2.1.cells h
      · rw [foldT_one HI.out.1]; exact HB.out.2.2.2.2.2.2
      · refine Fr.below (HI.out.2.2.2.2.1.mono (by omega)) hfz (fun i h => ?_) (by have := HB.out.1; omega)
        rcases h with rfl | h
        · omega
        · have := HB.out.2.2.2.2.1 _ h; omega
    | some r' =>
      obtain ⟨hfr, rfl, v1', v2', hrb, hn1, hn2⟩ := (show Told _ _ _ _ _ _ (.inr r') _ _ from hT)
      have hfr7 : Fr (fun i => Sg (s + 2) v1 v2 i) W w7 := (Fr.of_below HB.out.2.2.1).trans hfr fun i hi h => by
        rcases h with rfl | h
        · have := H4'.out; omega
        · exact h
      have HF := Lib.hid (And.intro hfr7 (And.intro hrb (And.intro hn1 hn2)))
      clear hT hfr hfr7 hrb hn1 hn2
      gi_wp2
      have hB7 : Below (s + 2) W1 w7 := Fr.below HI.out.2.2.2.2.1 HF.out.1 (fun i h => HB.out.2.2.2.2.1 _ h) (by have := HB.out.1; omega)
      have h7 : w7.heap[s + 3]? = W.heap[s + 3]? := HF.out.1.block (s + 3) (by have := HB.out.1; omega) fun h => HI.out.2.2.2.1 _ h rfl
      have hsz6 := HB.out.2.2.1.size
      refine ⟨keeps_fr _ HF.out.1 fun i _ h => HI.out.2.2.1.cells h, ⟨?_, h7⟩, r', v1', v2', ?_, line_right fx_ok HI.out.2.1 HB.out.2.2.2.2.2.2, HF.out.2.1, ?_, hB7, h7.trans HI.out.2.2.2.2.2⟩
      · exact Fr.below (Below.refl s W) HF.out.1 (fun i h => by have := HB.out.2.2.2.2.1 _ h; omega) (by have := HB.out.1; omega)
      · rw [foldT_one HI.out.1]; exact HB.out.2.2.2.2.2.2
      · intro i h
        rcases h with rfl | h | h
        · omega
        · rcases HF.out.2.2.1 i h with h | h
          · exact HI.out.2.2.2.1 i (.inr (.inl h))
          · have := HB.out.1; omega
        · rcases HF.out.2.2.2 i h with h | h
          · exact HI.out.2.2.2.1 i (.inr (.inr h))
          · have := HB.out.1; omega
  case done =>
    rintro D xs W hD rfl ⟨r, v1, v2, i1, i2, i3, i4, i5, i6⟩ hK
    clear x0 x1 x2 x3 hands h0
    have e0 : rightW ss us = (decide (r.servers = ss) && decide (r.rules.map rwR = us)) := by unfold rightW; rw [i1]
    obtain ⟨q1, hq1⟩ : ∃ q, decide (r.servers = ss) = q := ⟨_, rfl⟩
    obtain ⟨q2, hq2⟩ : ∃ q, decide (r.rules.map rwR = us) = q := ⟨_, rfl⟩
    rw [hq1, hq2] at e0
    obtain ⟨B1, d1, rfl, hS1, _⟩ := A9S.of_own i3.s
    obtain ⟨B2, d2, rfl, hS2, _⟩ := RwS.of_own i3.u
    rw [List.length_map] at hS2 i3
    have hw : Below s w W := hb1.trans (i5.mono (by omega))
    have g1 : W.cell? ⟨s + 2, 0, none⟩ = some (.slice B1 r.servers.length d1) := i3.cell0
    have g2 : W.cell? ⟨s + 2, 1, none⟩ = some (.slice B2 r.rules.length d2) := i3.cell1
    have b0 : W.heap[s]? = some (.cells (rsv va vb) 25 (0, 0)) := (i5.block s (by omega)).trans HX.out.1
    have bx : Boxed W (s + 1) 4 (.bool false) := (i5.block (s + 1) (by omega)).trans HX.out.2.1
    have g3 : W.cell? ⟨s, 0, none⟩ = some va := cell_of_row W s 0 _ _ _ b0
    have g4 : W.cell? ⟨s, 1, none⟩ = some vb := cell_of_row W s 1 _ _ _ b0
    have hT1 := HSS.out.1.s.later hw (Nat.le_of_eq hs)
    have hT2 := HSS.out.1.u.later hw (Nat.le_of_eq hs)
    rw [← HSS.out.2.1] at g3
    rw [← HSS.out.2.2] at g4
    have HD := Lib.hid (And.intro hS1 (And.intro hS2 (And.intro hT1 (And.intro hT2 (And.intro hq1 (And.intro hq2 (And.intro hw (And.intro bx (And.intro hK e0)))))))))
    have HC := Lib.hid (And.intro g1 (And.intro g2 (And.intro g3 g4)))
    clear i1 i2 i3 i4 i5 i6 e0 hS1 hS2 hT1 hT2 hq1 hq2 hw bx b0 hK hb1
    have HDD := Lib.hid hD
    clear hD
    gi_wp2
    refine ⟨trivial, ?_⟩
    refine (callsIn_wide.2 (equalA19 HD.out.1 HD.out.2.2.1)).mono ?_
    rintro e wA ⟨rfl, bA⟩
    rw [HD.out.2.2.2.2.1]
    have hltD : D < W.heap.size := (Array.getElem?_eq_some_iff.1 HD.out.2.2.2.2.2.2.2.2.1).1
    have bx1 : Boxed wA (s + 1) 4 (.bool false) := (bA.block (s + 1) HD.out.2.2.2.2.2.2.2.1.lt).trans HD.out.2.2.2.2.2.2.2.1
    have hKA := (bA.block D hltD).trans HD.out.2.2.2.2.2.2.2.2.1
    cases q1 with
    | false =>
      have f1 := bx1.cell
      have f2 := bx1.frozen
      have HF := Lib.hid (And.intro bA (And.intro bx1 hKA))
      clear bA bx1 hKA hltD
      gi_wp2
      refine ⟨trivial, ?_⟩
      gi_wp2
      have hne : D ≠ s + 1 := by have := HDD.out; omega
      have hK2 : (wA.setCell ⟨s + 1, 0, none⟩ (.bool false)).heap[D]? = some (.deferred (some [])) := (Below.heap_setCell _ _ _ _ hne).trans HF.out.2.2
      refine ⟨by simp, .inl ⟨_, _, rfl, run_takeDeferred hK2, ?_⟩⟩
      refine ⟨_, results_bool rfl _ rfl (cell_kept (HF.out.2.1.set (.bool false)).cell (grownBy_putObj' _ D (.deferred none)) (fun r e => by cases e; exact ⟨_, hK2, rfl⟩)), by rw [HD.out.2.2.2.2.2.2.2.2.2]; rfl, ?_⟩
      rw [hs]
      have hw1 := HD.out.2.2.2.2.2.2.1
      exact ((hw1.trans (HF.out.1.mono (by have := hw1.size; omega))).setCell (p := ⟨s + 1, 0, none⟩) (by show s ≤ s + 1; omega) _).trans (belowK_b (w := w) (Nat.le_of_eq hs.symm) _ D _ _ (by have := HDD.out; omega) hK2 rfl rfl)
    | true =>
      have e1 : wA.cell? ⟨s + 2, 1, none⟩ = some (.slice B2 r.rules.length d2) := (bA.cell (p := ⟨s + 2, 1, none⟩) (lt_cell HC.out.2.1)).trans HC.out.2.1
      have e2 : wA.cell? ⟨s, 1, none⟩ = some (.slice A2 n2 c2) := (bA.cell (p := ⟨s, 1, none⟩) (lt_cell HC.out.2.2.2)).trans HC.out.2.2.2
      have HF := Lib.hid (And.intro bA (And.intro bx1 hKA))
      clear bA bx1 hKA hltD
      gi_wp2
      refine ⟨trivial, ?_⟩
      refine (callsIn_wide.2 (equalR19 (HD.out.2.1.later HF.out.1 (Nat.le_refl _)) (HD.out.2.2.2.1.later HF.out.1 (Nat.le_refl _)))).mono ?_
      rintro e wB ⟨rfl, bB⟩
      rw [HD.out.2.2.2.2.2.1]
      have bx2 : Boxed wB (s + 1) 4 (.bool false) := (bB.block (s + 1) HF.out.2.1.lt).trans HF.out.2.1
      have hKB := (bB.block D (Array.getElem?_eq_some_iff.1 HF.out.2.2).1).trans HF.out.2.2
      have f1 := bx2.cell
      have f2 := bx2.frozen
      have HB := Lib.hid (And.intro bB (And.intro bx2 hKB))
      clear bB bx2 hKB e1 e2
      gi_wp2
      have hne : D ≠ s + 1 := by have := HDD.out; omega
      have hK2 : (wB.setCell ⟨s + 1, 0, none⟩ (.bool q2)).heap[D]? = some (.deferred (some [])) := (Below.heap_setCell _ _ _ _ hne).trans HB.out.2.2
      refine ⟨by simp, .inl ⟨_, _, rfl, run_takeDeferred hK2, ?_⟩⟩
      refine ⟨_, results_bool rfl _ rfl (cell_kept (HB.out.2.1.set (.bool q2)).cell (grownBy_putObj' _ D (.deferred none)) (fun r e => by cases e; exact ⟨_, hK2, rfl⟩)), by rw [HD.out.2.2.2.2.2.2.2.2.2, Bool.true_and], ?_⟩
      rw [hs]
      have hw1 := HD.out.2.2.2.2.2.2.1
      have hw2 : Below s w wA := hw1.trans (HF.out.1.mono (by have := hw1.size; omega))
      exact ((hw2.trans (HB.out.1.mono (by have := hw2.size; omega))).setCell (p := ⟨s + 1, 0, none⟩) (by show s ≤ s + 1; omega) _).trans (belowK_b (w := w) (Nat.le_of_eq hs.symm) _ D _ _ (by have := HDD.out; omega) hK2 rfl rfl)
  case stop =>
    rintro D xs W hD ⟨k, rfl⟩ ⟨o1, o2, o3⟩ hK
    clear x0 x1 x2 x3 hands h0
    have e0 : rightW ss us = false := by unfold rightW; rw [foldT_cut o1]
    have f1 := (show Boxed W (s + 1) 4 (.bool false) from o3).cell
    have HO := Lib.hid (And.intro o2 (And.intro e0 hb1))
    clear o1 o2 o3 e0 hb1
    gi_wp2
    refine ⟨by simp, .inl ⟨_, _, rfl, run_takeDeferred hK, ?_⟩⟩
    refine ⟨_, results_bool rfl _ rfl (cell_kept f1 (grownBy_putObj' _ D (.deferred none)) (fun r e => by cases e; exact ⟨_, hK, rfl⟩)), by rw [HO.out.2.1], ?_⟩
    rw [hs]
    exact (HO.out.2.2.trans HO.out.1).trans (belowK_b (w := w) (Nat.le_of_eq hs.symm) W D _ _ (by omega) hK rfl rfl)
theorem right19 {A1 A2 : Option Addr} {n1 c1 n2 c2 : Nat} {ss : List Ad19} {us : List Rw} {w : World} (h1 : A9S w A1 n1 c1 ss) (h2 : RwS w A2 n2 c2 us) (hE : Env19 w) (hf : ∀ x ∈ us, x.fit) :
    Calls Tryz.prog 13 #[.agg (rsv (.slice A1 n1 c1) (.slice A2 n2 c2))] w fun e W2 => e = .returned (.bool (rightW ss us)) ∧ Below w.heap.size w W2 :=
  callsIn_wide.1 (right19_in h1 h2 hE hf)
end Go.Proofs.YtoagfmonfgagbaaGreatDoor

namespace Go.Proofs.YtoagfmonfgagbaaGreatDoor
open Go.RowKit
set_option maxRecDepth 100000

theorem protoTx_ok {n : Int} (h : protoOk n = true) : protoTx n = protoT n := by
  unfold protoOk at h
  simp only [Bool.or_eq_true, beq_iff_eq] at h
  rcases h with ((rfl | rfl) | rfl) | rfl <;> rfl
theorem itoa_nat (n : Nat) : Lib.itoa (n : Int) = Lib.decDigits n := by
  unfold Lib.itoa
  rw [if_neg (by omega), Int.toNat_natCast]
theorem portsTx_ok (a b : Nat) : portsTx a b = portsT a b := by
  unfold portsTx portsT
  rw [itoa_nat, itoa_nat]
  by_cases h : a = 0 ∧ b = 65535
  · rw [if_pos h, if_pos ⟨by rw [h.1]; rfl, by rw [h.2]; rfl⟩]
  · rw [if_neg h, if_neg (fun e => h ⟨by omega, by omega⟩)]
    by_cases h2 : a = b
    · rw [if_pos h2, if_pos (by rw [h2])]
    · rw [if_neg h2, if_neg (fun e => h2 (by omega))]
theorem plain_parts {p : List UInt8 × Bool} (h : plainP fx p = true) : p.1 ≠ [] ∧ p.1.length ≤ 1000 := by
  have h1 := plainP_n h
  unfold plainN at h1
  simp only [Bool.and_eq_true, Bool.not_eq_true', List.isEmpty_eq_false_iff] at h1
  have h2 : rightN p.1 := of_decide_eq_true h1.1.1.1
  have h3 := ((right_iff p.1).1 h2).1
  exact ⟨h1.1.1.2, by omega⟩
theorem oneR_parts {x : Ru19} (h : oneR fx x = true) : protoOk x.proto = true ∧ x.low ≤ x.high ∧ x.high ≤ 65535 ∧ patOk fx x.pat = true := by
  unfold oneR at h
  simp only [Bool.and_eq_true, decide_eq_true_eq] at h
  exact ⟨h.1.1.1, h.1.1.2, h.1.2, h.2⟩
theorem wordsW_ok {x : Ru19} (h : oneR fx x = true) : wordsW (rwR x) = wordsR fx x := by
  obtain ⟨h1, h2, h3, h4⟩ := oneR_parts h
  obtain ⟨al, pat, pr, lo, hi⟩ := x
  cases pat with
  | inl p =>
    have hp := plain_parts (show plainP fx p = true from h4)
    show [_, if p.1 = [] then kwNet else kwName, if p.1 = [] then _ else if p.2 then 42 :: 46 :: p.1 else p.1, protoTx pr, portsTx (lo : Int) (hi : Int)] = [_, kwName, patternT p, protoT pr, portsT lo hi]
    rw [if_neg hp.1, if_neg hp.1, protoTx_ok h1, portsTx_ok]
    rfl
  | inr n =>
    show [_, kwNet, textnetv n.1 n.2.1 n.2.2, protoTx pr, portsTx (lo : Int) (hi : Int)] = [_, kwNet, textnetv n.1 n.2.1 n.2.2, protoT pr, portsT lo hi]
    rw [protoTx_ok h1, portsTx_ok]
    rfl
theorem fit_ok {x : Ru19} (h : oneR fx x = true) : (rwR x).fit := by
  obtain ⟨h1, h2, h3, h4⟩ := oneR_parts h
  obtain ⟨al, pat, pr, lo, hi⟩ := x
  dsimp only at h2 h3
  cases pat with
  | inl p =>
    have hp := plain_parts (show plainP fx p = true from h4)
    exact ⟨List.length_replicate .., by show p.1.length ≤ 100000; omega, ⟨by show (-1000000 : Int) ≤ (lo : Int); omega, by show (lo : Int) ≤ 1000000; omega⟩, ⟨by show (-1000000 : Int) ≤ (hi : Int); omega, by show (hi : Int) ≤ 1000000; omega⟩⟩
  | inr n =>
    have hn : (n.2.1.length == 16 && rightnetv n.1 n.2.1 n.2.2) = true := h4
    simp only [Bool.and_eq_true, beq_iff_eq] at hn
    exact ⟨hn.1, Nat.zero_le _, ⟨by show (-1000000 : Int) ≤ (lo : Int); omega, by show (lo : Int) ≤ 1000000; omega⟩, ⟨by show (-1000000 : Int) ≤ (hi : Int); omega, by show (hi : Int) ≤ 1000000; omega⟩⟩
theorem linesW_ok {r : Rs19} (h : RightR fx r) : linesW r.servers (r.rules.map rwR) = linesOf fx r := by
  unfold linesW linesOf
  congr 1
  rw [List.map_map]
  exact List.map_congr_left fun x hx => wordsW_ok (h.one x hx)
theorem rightW_ok {r : Rs19} (h : RightR fx r) : rightW r.servers (r.rules.map rwR) = true := by
  unfold rightW
  rw [linesW_ok h, fold_back fx_ok h]
  simp
/-- What is parsed may be. -/
theorem right_parsed {r : Rs19} (h : RightR fx r) {base : Nat} {v1 v2 : Value} {w w0 : World} (hE : Env19 w) (h1 : A9O w base v1 r.servers) (h2 : RwO w base v2 (r.rules.map rwR)) (_ : w0 = w) :
    Calls Tryz.prog 13 #[.agg (rsv v1 v2)] w fun e W2 => e = .returned (.bool true) ∧ Below w.heap.size w W2 := by
  obtain ⟨A1, c1, rfl, g1, _⟩ := A9S.of_own h1
  obtain ⟨A2, c2, rfl, g2, _⟩ := RwS.of_own h2
  have K := right19 g1 g2 hE (fun x hx => by
    obtain ⟨y, hy, rfl⟩ := List.mem_map.1 hx
    exact fit_ok (h.one y hy))
  rw [rightW_ok h] at K
  exact K
end Go.Proofs.YtoagfmonfgagbaaGreatDoor

namespace Go.Proofs.YtoagfmonfgagbaaGreatDoor
open Go.RowKit
set_option maxRecDepth 100000

theorem sizeT_mem : ∀ {ts : List Tk} {t : Tk}, t ∈ ts → t.text.length ≤ sizeT ts
  | u :: ts, t, h => by
    rw [sizeT_cons]
    rcases List.mem_cons.1 h with rfl | h
    · omega
    · have := sizeT_mem h; omega
/-- A text, read. -/
def textV (b : List UInt8) : Sum (Int × Nat) Rs19 := match lexM .gap 0 1 b with
  | .inl p => .inl (21, p)
  | .inr ts => parseV fx ts
theorem textV_right {b : List UInt8} {r : Rs19} (h : textV b = .inr r) : RightR fx r := by
  unfold textV at h
  cases hl : lexM .gap 0 1 b with
  | inl p => rw [hl] at h; cases h
  | inr ts => rw [hl] at h; exact parse_may fx_ok h
set_option maxHeartbeats 4000000 in
theorem parsed19 (s : ByteArray) (hs : s.size ≤ 20000) {w : World} (hE : Env19 w) : Calls Tryz.prog 11 #[.string s] w fun e w' => ∃ v, e = .returned v ∧ ParseQ w.heap.size (textV s.data.toList) w' v ∧ Below w.heap.size w w' := by
  unfold textV
  cases hl : lexM .gap 0 1 s.data.toList with
  | inl p =>
    have K := Lib.hid (fun w1 => tokens18 s hs w1)
    have HL := Lib.hid hl
    clear hE hl
    go_enter Tryz.func11, Tryz.ntmps11
    go_wp2_with (first
      | (refine wpList_alloc_rs rfl rfl ?_; intro w1 a1 b1 z1; have H1 := Lib.hid (And.intro a1 (And.intro b1 z1)); clear a1 b1 z1))
    refine (K.out _).mono ?_
    rintro e w2 ⟨v, rfl, hv, b2⟩
    rw [HL.out] at hv
    obtain ⟨er, rfl, g, rfl, hg⟩ := hv
    have hq := (b2.block _ (lt_blk H1.out.1)).trans H1.out.1
    have H2 := Lib.hid (And.intro hg (And.intro hq (H1.out.2.1.trans (b2.mono H1.out.2.1.size))))
    have hlt : w.heap.size < w1.heap.size := lt_blk H1.out.1
    clear hg hq
    go_wp2_with (first
      | (refine wpList_store_rs rfl (.tmp 2) (.tmp 13) rfl (.slice none 0 0) (.slice none 0 0) rfl rfl rfl rfl H2.out.2.1 ?_; intro w3 a3 o3 z3 b3; have H3 := Lib.hid (And.intro a3 (And.intro o3 (b3 w.heap.size w (Nat.le_refl _) H2.out.2.2))); clear a3 o3 z3 b3))
    refine bodyPost_ret (results_rs_tmp rfl _ rfl H3.out.1) rfl ⟨_, rfl, ⟨_, rfl, g, rfl, (H3.out.2.1 g ?_).trans H2.out.1⟩, H3.out.2.2⟩
    rintro rfl
    have h1 := H2.out.1.symm.trans H2.out.2.1
    cases h1
  | inr ts =>
    have hsz : ∀ t ∈ ts, t.text.length ≤ 1000000 := fun t ht => by
      have h1 := sizeT_mem ht
      have h2 := lexM_size _ _ _ _ _ hl
      have h3 : (Md.gap).size = 0 := rfl
      rw [← Lib.size_eq] at h2
      omega
    have K := Lib.hid (fun w1 => tokens18 s hs w1)
    have HL := Lib.hid (And.intro hl (And.intro hE hsz))
    dsimp only
    obtain ⟨R, hR⟩ : ∃ R, parseV fx ts = R := ⟨_, rfl⟩
    rw [hR]
    have HR := Lib.hid hR
    clear hE hl hsz hR
    go_enter Tryz.func11, Tryz.ntmps11
    go_wp2_with (first
      | (refine wpList_alloc_rs rfl rfl ?_; intro w1 a1 b1 z1; have H1 := Lib.hid (And.intro a1 (And.intro b1 z1)); clear a1 b1 z1))
    refine (K.out _).mono ?_
    rintro e w2 ⟨v, rfl, hv, b2⟩
    rw [HL.out.1] at hv
    obtain ⟨v, rfl, ho⟩ := hv
    obtain ⟨A, c, rfl, hk⟩ := TkS.of_own ho
    have hq := (b2.block _ (lt_blk H1.out.1)).trans H1.out.1
    have hb := H1.out.2.1.trans (b2.mono H1.out.2.1.size)
    have P := parse19 hk (HL.out.2.1.later hb (Nat.le_refl _)) HL.out.2.2
    rw [HR.out] at P
    have H2 := Lib.hid (And.intro hq hb)
    have HP := Lib.hid P
    clear ho hk hq hb P
    go_wp2_with fail
    refine HP.out.mono ?_
    rintro e w3 ⟨v, rfl, hv, b3⟩
    have hq3 := (b3.block _ (lt_blk H2.out.1)).trans H2.out.1
    have hb3 := H2.out.2.trans (b3.mono H2.out.2.size)
    have hsz2 : w.heap.size < w2.heap.size := lt_blk H2.out.1
    cases R with
    | inl x =>
      obtain ⟨k, p⟩ := x
      obtain ⟨er, rfl, g, rfl, hg⟩ := (show ∃ er, v = .tuple #[.agg (rsv (.slice none 0 0) (.slice none 0 0)), er] ∧ ErrN w3 er k p from hv)
      have H3 := Lib.hid (And.intro hg (And.intro hq3 hb3))
      clear hg hq3 hb3
      go_wp2_with (first
        | (refine wpList_store_rs rfl (.tmp 2) (.tmp 17) rfl (.slice none 0 0) (.slice none 0 0) rfl rfl rfl rfl H3.out.2.1 ?_; intro w4 a4 o4 z4 b4; have H4 := Lib.hid (And.intro a4 (And.intro o4 (b4 w.heap.size w (Nat.le_refl _) H3.out.2.2))); clear a4 o4 z4 b4))
      refine bodyPost_ret (results_rs_tmp rfl _ rfl H4.out.1) rfl ⟨_, rfl, ⟨_, rfl, g, rfl, (H4.out.2.1 g ?_).trans H3.out.1⟩, H4.out.2.2⟩
      rintro rfl
      have h1 := H3.out.1.symm.trans H3.out.2.1
      cases h1
    | inr r =>
      obtain ⟨v1, v2, rfl, hA, hB⟩ := (show ∃ v1 v2, v = .tuple #[.agg (rsv v1 v2), .nilIface] ∧ A9O w3 w2.heap.size v1 r.servers ∧ RwO w3 w2.heap.size v2 (r.rules.map rwR) from hv)
      have H3 := Lib.hid (And.intro hA (And.intro hB (And.intro hq3 hb3)))
      clear hA hB hq3 hb3
      go_wp2_with (first
        | (refine wpList_store_rs rfl (.tmp 2) (.tmp 17) rfl v1 v2 H3.out.1.one H3.out.2.1.one rfl rfl H3.out.2.2.1 ?_; intro w4 a4 o4 z4 b4; have H4 := Lib.hid (And.intro a4 (And.intro o4 (b4 w.heap.size w (Nat.le_refl _) H3.out.2.2.2))); clear a4 o4 z4 b4))
      refine bodyPost_ret (results_rs_tmp rfl _ rfl H4.out.1) rfl ⟨_, rfl, ⟨v1, v2, rfl, (H3.out.1.kept fun b hb => H4.out.2.1 b ?_).base (Nat.le_of_lt hsz2), (H3.out.2.1.kept fun b hb => H4.out.2.1 b ?_).base (Nat.le_of_lt hsz2)⟩, H4.out.2.2⟩
      · have := (H3.out.1.lt hb).1; omega
      · have := (H3.out.2.1.lt hb).1; omega
end Go.Proofs.YtoagfmonfgagbaaGreatDoor

namespace Go.Proofs.YtoagfmonfgagbaaGreatDoor
open Go.RowKit
set_option maxRecDepth 100000

def awB : List UInt8 := [97, 108, 108, 111, 119, 32, 110, 97, 109, 101, 32, 42, 46, 97, 46, 98, 32, 116, 99, 112, 32, 52, 52, 51]
def awX : Rs19 := ⟨[], [⟨true, .inl ([97, 46, 98], true), 6, 443, 443⟩]⟩
theorem aw_text : textV awB = .inr awX := by
  kernel_rfl
theorem rs_range {w : World} {g : Nat} {v1 v2 : Value} (h : RsBox w g v1 v2) : w.rangeAt g 0 (rsv v1 v2).toList := fun j v hj => by
  rw [Nat.zero_add]
  exact (cell_of_row w g j _ _ _ h).trans (by rw [← Array.getElem?_toList]; exact hj)
theorem aw_facts {w : World} {base : Nat} {v : Value} (h : RwO w base v (awX.rules.map rwR)) : ∃ b off c, v = .slice (some ⟨b, off, none⟩) 1 c ∧ 1 ≤ c ∧ c ≤ 2 ^ 63 - 1 ∧ w.cell? ⟨b, off + 1, none⟩ = some (.string ⟨#[97, 46, 98]⟩) ∧ w.cell? ⟨b, off + 2, none⟩ = some (.bool true) ∧ w.cell? ⟨b, off + 22, none⟩ = some (.int .i64 443) := by
  obtain ⟨A, c, hv, hs, _⟩ := RwS.of_own h
  obtain ⟨b, off, rfl, hr⟩ := hs.here 0 (rwR ⟨true, .inl ([97, 46, 98], true), 6, 443, 443⟩) rfl
  obtain ⟨f0, f1, f2, f3, f4, f5, f6⟩ := rw_at (r := rwR ⟨true, .inl ([97, 46, 98], true), 6, 443, 443⟩) (show List.length _ = 16 from rfl) hr
  have hm := hs.max
  unfold maxLen at hm
  exact ⟨b, off, c, hv, hs.cap, hm, f1, f2, f4⟩
set_option maxHeartbeats 8000000 in
theorem awake19 {w : World} (hE : Env19 w) : Calls Tryz.prog 9 #[] w fun e w' => e = .returned (.bool true) ∧ Below w.heap.size w w' := by
  have K := parsed19 ⟨#[97, 108, 108, 111, 119, 32, 110, 97, 109, 101, 32, 42, 46, 97, 46, 98, 32, 116, 99, 112, 32, 52, 52, 51]⟩ (by decide) hE
  rw [show textV (ByteArray.mk #[97, 108, 108, 111, 119, 32, 110, 97, 109, 101, 32, 42, 46, 97, 46, 98, 32, 116, 99, 112, 32, 52, 52, 51]).data.toList = .inr awX from aw_text] at K
  have K := Lib.hid K
  have HE := Lib.hid hE
  clear hE
  go_enter Tryz.func9, Tryz.ntmps9
  go_wp2_with fail
  refine K.out.mono ?_
  rintro e w1 ⟨v, rfl, hv, b1⟩
  obtain ⟨v1, v2, rfl, hA, hB⟩ := (show ∃ v1 v2, v = .tuple #[.agg (rsv v1 v2), .nilIface] ∧ A9O w1 w.heap.size v1 awX.servers ∧ RwO w1 w.heap.size v2 (awX.rules.map rwR) from hv)
  have H1 := Lib.hid (And.intro hA (And.intro hB b1))
  clear hv hA hB b1 K
  go_wp2_with (first
    | (refine wpList_alloc_rs rfl rfl ?_; intro w2 a2 b2 z2; have H2 := Lib.hid (And.intro a2 b2); clear a2 b2 z2)
    | (refine wpList_store_rs rfl (.tmp 1) (.tmp 5) rfl v1 v2 H1.out.1.one H1.out.2.1.one rfl rfl H2.out.1 ?_; intro w3 a3 o3 z3 b3; have H3 := Lib.hid (And.intro a3 (b3 w1.heap.size w1 (Nat.le_refl _) H2.out.2)); clear a3 o3 z3 b3; have h1 := H1.out.1.later H3.out.2; have h2 := H1.out.2.1.later H3.out.2; have hE3 := HE.out.later (H1.out.2.2.trans (H3.out.2.mono H1.out.2.2.size)) (Nat.le_refl _); have KR := right_parsed (r := awX) (textV_right aw_text) hE3 h1 h2 rfl; obtain ⟨b, off, c2, hvv, hc2, hm2, e1, e2, e4⟩ := aw_facts h2; have q1 : w3.cell? ⟨w1.heap.size, 1, none⟩ = some (.slice (some ⟨b, off, none⟩) 1 c2) := by rw [← hvv]; exact cell_of_row w3 w1.heap.size 1 _ _ _ H3.out.1
       have HR := Lib.hid KR
       have HV := Lib.hid hvv
       clear KR h1 h2 hE3 hvv)
    | (refine wpList_load_row_w (by rfl) 25 (.tmp 1) rfl w1.heap.size 0 rfl (rsv v1 v2) _ (rs_range H3.out.1) Tryz.underlying25 rfl (rs_size v1 v2) ?_))
  refine HR.out.mono ?_
  rintro e w4 ⟨rfl, b4⟩
  have H4 := Lib.hid b4
  clear b4
  go_wp2_with fail
  go_ret
  exact ⟨rfl, (H1.out.2.2.trans (H3.out.2.mono H1.out.2.2.size)).trans (H4.out.mono (H1.out.2.2.trans (H3.out.2.mono H1.out.2.2.size)).size)⟩
end Go.Proofs.YtoagfmonfgagbaaGreatDoor

namespace Go.Proofs.YtoagfmonfgagbaaGreatDoor
open Go.RowKit
set_option maxRecDepth 100000

theorem num_mod19 (a : Int) (m : Int) (h0 : 0 < m) (h1 : m ≤ 1000000) : 0 ≤ wrap64 ((IntKind.u64.wrap a).tmod m) ∧ wrap64 ((IntKind.u64.wrap a).tmod m) < m := by
  have h : IntKind.u64.wrap a = a % 18446744073709551616 := rfl
  have h2 : 0 ≤ IntKind.u64.wrap a := by rw [h]; omega
  rw [Int.tmod_eq_emod_of_nonneg h2]
  have h3 := Int.emod_nonneg (IntKind.u64.wrap a) (show m ≠ 0 by omega)
  have h4 := Int.emod_lt_of_pos (IntKind.u64.wrap a) h0
  generalize IntKind.u64.wrap a % m = x at h3 h4
  unfold wrap64
  omega
theorem cat_text (p l : List UInt8) : (mkS p ++ mkS l).data.toList = p ++ l := by rw [mkS_cat, mkS_data]
/-- A text, a row of one rule or an error that is no nil: parsed, as the laws ask it. -/
theorem parsed_ok {s : ByteArray} {x : Rs19} {w : World} (hE : Env19 w) (hs : s.size ≤ 20000) (ht : textV s.data.toList = .inr x) : Calls Tryz.prog 11 #[.string s] w fun e w' => ∃ v1 v2, e = .returned (.tuple #[.agg (rsv v1 v2), .nilIface]) ∧ A9O w' w.heap.size v1 x.servers ∧ RwO w' w.heap.size v2 (x.rules.map rwR) ∧ Below w.heap.size w w' := by
  have K := parsed19 s hs hE
  rw [ht] at K
  refine K.mono ?_
  rintro e w' ⟨v, rfl, ⟨v1, v2, rfl, h1, h2⟩, hb⟩
  exact ⟨v1, v2, rfl, h1, h2, hb⟩
theorem parsed_err {s : ByteArray} {y : Int × Nat} {w : World} (hE : Env19 w) (hs : s.size ≤ 20000) (ht : textV s.data.toList = .inl y) : Calls Tryz.prog 11 #[.string s] w fun e w' => ∃ g, e = .returned (.tuple #[.agg (rsv (.slice none 0 0) (.slice none 0 0)), .iface 84 (.pointer (some ⟨g, 0, none⟩))]) ∧ w'.heap[g]? = some (.cells #[.int .i64 y.2, errV y.1] 90 (0, 0)) ∧ Below w.heap.size w w' := by
  have K := parsed19 s hs hE
  rw [ht] at K
  refine K.mono ?_
  rintro e w' ⟨v, rfl, ⟨er, rfl, g, rfl, hg⟩, hb⟩
  exact ⟨g, rfl, hg, hb⟩
/-- What an error at a place tells. -/
theorem told_at19 {w : World} {g : Nat} {n : Int} {p : Nat} (hn : n ≠ 0) (hg : w.heap[g]? = some (.cells #[.int .i64 p, errV n] 90 (0, 0))) : Tells w (.iface 84 (.pointer (some ⟨g, 0, none⟩))) ⟨n, p, true⟩ := by
  have c0 : w.cell? ⟨g, 0, none⟩ = some (.int .i64 p) := by rw [cell_of_row w g 0 _ _ _ hg]; rfl
  have c1 : w.cell? ⟨g, 1, none⟩ = some (.iface 37 (.int .i64 n)) := by rw [cell_of_row w g 1 _ _ _ hg]; rfl
  exact .inr ⟨hn, 1, [(g, (p : Int))], .fault 0 g p _ [] n hg c0 c1 (.errno n), by simp [isFail]⟩
/-- A policy in a box: how many servers and rules it has. -/
theorem box_lens {w : World} {g base : Nat} {v1 v2 : Value} {x : Rs19} (hb : RsBox w g v1 v2) (h1 : A9O w base v1 x.servers) (h2 : RwO w base v2 (x.rules.map rwR)) : ∃ A1 c1 A2 c2, w.cell? ⟨g, 0, none⟩ = some (.slice A1 x.servers.length c1) ∧ w.cell? ⟨g, 1, none⟩ = some (.slice A2 x.rules.length c2) := by
  obtain ⟨A1, c1, rfl, _, _⟩ := A9S.of_own h1
  obtain ⟨A2, c2, rfl, _, _⟩ := RwS.of_own h2
  rw [List.length_map] at hb
  exact ⟨A1, c1, A2, c2, cell_of_row w g 0 _ _ _ hb, cell_of_row w g 1 _ _ _ hb⟩
end Go.Proofs.YtoagfmonfgagbaaGreatDoor

namespace Go.Proofs.YtoagfmonfgagbaaGreatDoor
open Go.RowKit
set_option maxRecDepth 100000

def lnD : List (List UInt8) := [kwDeny, kwName, [97], kwAny, [42]]
def bLn : List UInt8 := [100, 101, 110, 121, 32, 110, 97, 109, 101, 32, 97, 32, 97, 110, 121, 32, 42, 10]
def ruD : Ru19 := ⟨false, .inl ([97], false), 256, 0, 65535⟩
theorem one_d : oneR fx ruD = true := by kernel_rfl
theorem words_d : wordsR fx ruD = lnD := by kernel_rfl
theorem line_d (r : Rs19) (h : r.rules.length < 200) : lineT fx r lnD = some ⟨r.servers, r.rules ++ [ruD]⟩ := by
  rw [← words_d]
  exact line_r fx_ok one_d h
theorem wl_d : ∀ w ∈ lnD, wordL w := fun w hw => by
  rw [← words_d] at hw
  exact words_r fx_ok one_d w hw
/-- So many rules' lines. -/
def manyR (n : Nat) : List UInt8 := (List.replicate n lnD).flatMap lineB
theorem manyR_succ (n : Nat) : manyR (n + 1) = manyR n ++ bLn := by
  unfold manyR
  rw [List.replicate_succ', List.flatMap_append]
  rfl
theorem manyR_len : ∀ n : Nat, (manyR n).length = 18 * n
  | 0 => rfl
  | n + 1 => by
    rw [manyR_succ, List.length_append, manyR_len n]
    show 18 * n + 18 = _
    omega
theorem manyR_chunk (n : Nat) : Chunk (manyR n) (List.replicate n lnD) := chunk_lines _ fun ws hws w hw => by
  obtain rfl := List.eq_of_mem_replicate hws
  exact wl_d w hw
theorem manyR_ok {n : Nat} (h : n ≤ 200) : textV (manyR n) = .inr ⟨[], List.replicate n ruD⟩ := by
  obtain ⟨ts, h1, h2⟩ := chunk_parse (manyR_chunk n) (fold_many (f := fx) line_d n noneR (by show 0 + n ≤ 200; omega))
  unfold textV
  rw [h1]
  exact h2
theorem manyR_big : textV (manyR 201) = .inl (4, 3600) := by
  have hl : lineT fx (⟨[], List.replicate 200 ruD⟩ : Rs19) lnD = none := by kernel_rfl
  obtain ⟨ts, row, h1, h2⟩ := chunk_wrong (manyR_chunk 200) (r := (⟨[], List.replicate 200 ruD⟩ : Rs19)) (fold_many (f := fx) line_d 200 noneR (by decide)) wl_d hl [] (fun row => ⟨_, lexM_end _ _⟩)
  have e : manyR 201 = manyR 200 ++ (joinSp lnD ++ 10 :: []) := manyR_succ 200
  unfold textV
  rw [e, h1]
  show parseV fx ts = _
  rw [h2, manyR_len]
  kernel_rfl
def dgt (i : Nat) : List UInt8 := if i < 10 then [UInt8.ofNat (48 + i)] else [UInt8.ofNat (48 + i / 10), UInt8.ofNat (48 + i % 10)]
theorem dgt_eq {i : Nat} (h : i < 100) : Lib.decDigits i = dgt i := by
  unfold dgt
  rw [dec_stepP]
  by_cases h1 : i < 10
  · rw [if_pos h1, if_pos h1]
  · rw [if_neg h1, if_neg h1, dec_stepP, if_pos (by omega)]
    rfl
def bRs : List UInt8 := [114, 101, 115, 111, 108, 118, 101, 114, 32, 49, 46, 50, 46, 51, 46]
/-- So many resolvers' lines. -/
def manyS : Nat → List UInt8
  | 0 => []
  | n + 1 => manyS n ++ (bRs ++ (dgt n ++ [10]))
theorem dgt_len (i : Nat) : (dgt i).length ≤ 2 := by
  unfold dgt
  split
  · exact Nat.le_succ 1
  · exact Nat.le_refl 2
theorem manyS_len : ∀ n : Nat, (manyS n).length ≤ 18 * n
  | 0 => Nat.le_refl _
  | n + 1 => by
    have h1 := manyS_len n
    have h2 := dgt_len n
    have h3 : bRs.length = 15 := rfl
    rw [manyS, List.length_append, List.length_append, List.length_append]
    simp only [List.length_cons, List.length_nil]
    omega
def srvOk (n : Nat) : Bool := match textV (manyS n) with
  | .inl x => decide (n = 21) && (x.1 == 4 && x.2 == (manyS 20).length + 9)
  | .inr r => decide (n ≤ 20) && (r.servers.length == n && r.rules.length == 0)
theorem srv_all : srvOk 19 = true ∧ srvOk 20 = true ∧ srvOk 21 = true := ⟨by kernel_rfl, by kernel_rfl, by kernel_rfl⟩
theorem srv_ok {n : Nat} (h : srvOk n = true) (hn : n ≤ 20) : ∃ r, textV (manyS n) = .inr r ∧ r.servers.length = n ∧ r.rules.length = 0 := by
  unfold srvOk at h
  cases hv : textV (manyS n) with
  | inl x =>
    rw [hv] at h
    simp only [Bool.and_eq_true, decide_eq_true_eq] at h
    omega
  | inr r =>
    rw [hv] at h
    simp only [Bool.and_eq_true, beq_iff_eq] at h
    exact ⟨r, rfl, h.2.1, h.2.2⟩
theorem manyS_ok {n : Nat} (h1 : 19 ≤ n) (h2 : n ≤ 20) : ∃ r, textV (manyS n) = .inr r ∧ r.servers.length = n ∧ r.rules.length = 0 := by
  rcases (show n = 19 ∨ n = 20 by omega) with rfl | rfl
  · exact srv_ok srv_all.1 h2
  · exact srv_ok srv_all.2.1 h2
theorem manyS_big : textV (manyS 21) = .inl (4, (manyS 20).length + 9) := by
  have h := srv_all.2.2
  unfold srvOk at h
  cases hv : textV (manyS 21) with
  | inl x =>
    rw [hv] at h
    simp only [Bool.and_eq_true, beq_iff_eq] at h
    obtain ⟨x1, x2⟩ := x
    rw [h.2.1.symm, h.2.2.symm]
  | inr r =>
    rw [hv] at h
    simp only [Bool.and_eq_true, decide_eq_true_eq] at h
    omega
end Go.Proofs.YtoagfmonfgagbaaGreatDoor

namespace Go.Proofs.YtoagfmonfgagbaaGreatDoor
open Go.RowKit
set_option maxRecDepth 100000

theorem textV_line {ws : List (List UInt8)} (h : ∀ w ∈ ws, wordL w) : textV (joinSp ws) = (match lineT fx noneR ws with
    | some r => .inr r
    | none => .inl (lineE fx noneR (joinSp ws).length (wtoks 0 1 ws))) := by
  unfold textV
  rw [last_line h]
  show parseV fx _ = _
  rw [parse_last]
  cases lineT fx (noneR : Rs19) ws <;> rfl
def ruA (al : Bool) (n : Int) (x : Nat × Nat) : Rs19 := ⟨[], [⟨al, .inl ([97], false), n, x.1, x.2⟩]⟩
theorem line_a6 (w : List UInt8) : lineT fx (noneR : Rs19) [kwAllow, kwName, [97], kwTcp, w] = (portsV w).map (ruA true 6) := by
  kernel_rfl
theorem line_a17 (w : List UInt8) : lineT fx (noneR : Rs19) [kwAllow, kwName, [97], kwUdp, w] = (portsV w).map (ruA true 17) := by
  kernel_rfl
def bAT : List UInt8 := [97, 108, 108, 111, 119, 32, 110, 97, 109, 101, 32, 97, 32, 116, 99, 112, 32]
def bAU : List UInt8 := [97, 108, 108, 111, 119, 32, 110, 97, 109, 101, 32, 97, 32, 117, 100, 112, 32]
theorem words5 {p w : List UInt8} (hp : wordL p) (hw : wordL w) : ∀ v ∈ [kwAllow, kwName, [97], p, w], wordL v := by
  intro v hv
  simp only [List.mem_cons, List.not_mem_nil, or_false] at hv
  rcases hv with rfl | rfl | rfl | rfl | rfl
  · exact ⟨by decide, by decide⟩
  · exact ⟨by decide, by decide⟩
  · exact ⟨by decide, by decide⟩
  · exact hp
  · exact hw
theorem text_tcp {w : List UInt8} (hw : wordL w) : (∀ x, portsV w = some x → textV (bAT ++ w) = .inr (ruA true 6 x)) ∧ (portsV w = none → ∃ y, textV (bAT ++ w) = .inl y) := by
  have h := textV_line (words5 (p := kwTcp) ⟨by decide, by decide⟩ hw)
  rw [line_a6] at h
  have e : joinSp [kwAllow, kwName, [97], kwTcp, w] = bAT ++ w := rfl
  rw [e] at h
  exact ⟨fun x hx => by rw [h, hx]; rfl, fun hx => by rw [h, hx]; exact ⟨_, rfl⟩⟩
theorem text_udp {w : List UInt8} (hw : wordL w) : (∀ x, portsV w = some x → textV (bAU ++ w) = .inr (ruA true 17 x)) ∧ (portsV w = none → ∃ y, textV (bAU ++ w) = .inl y) := by
  have h := textV_line (words5 (p := kwUdp) ⟨by decide, by decide⟩ hw)
  rw [line_a17] at h
  have e : joinSp [kwAllow, kwName, [97], kwUdp, w] = bAU ++ w := rfl
  rw [e] at h
  exact ⟨fun x hx => by rw [h, hx]; rfl, fun hx => by rw [h, hx]; exact ⟨_, rfl⟩⟩
/-- One port. -/
theorem text_one (a : Nat) : (a ≤ 65535 → textV (bAT ++ Lib.decDigits a) = .inr (ruA true 6 (a, a))) ∧ (65535 < a → ∃ y, textV (bAT ++ Lib.decDigits a) = .inl y) := by
  have h := text_tcp (dec_word a)
  rw [ports_one] at h
  exact ⟨fun ha => h.1 _ (if_pos ha), fun ha => h.2 (if_neg (by omega))⟩
theorem two_word (a b : Nat) : wordL (Lib.decDigits a ++ 45 :: Lib.decDigits b) := by
  refine ⟨by simp, fun c hc => ?_⟩
  rcases List.mem_append.1 hc with hc | hc
  · exact (dec_word a).2 c hc
  · rcases List.mem_cons.1 hc with rfl | hc
    · decide
    · exact (dec_word b).2 c hc
/-- Two ports. -/
theorem text_two (a b : Nat) : (a ≤ b → b ≤ 65535 → textV (bAU ++ (Lib.decDigits a ++ 45 :: Lib.decDigits b)) = .inr (ruA true 17 (a, b))) ∧ (¬ (a ≤ b ∧ b ≤ 65535) → ∃ y, textV (bAU ++ (Lib.decDigits a ++ 45 :: Lib.decDigits b)) = .inl y) := by
  have h := text_udp (two_word a b)
  rw [ports_two] at h
  exact ⟨fun h1 h2 => h.1 _ (if_pos ⟨h1, h2⟩), fun h1 => h.2 (if_neg h1)⟩
/-- All ports. -/
theorem text_all : textV [100, 101, 110, 121, 32, 110, 97, 109, 101, 32, 97, 32, 97, 110, 121, 32, 42] = .inr (ruA false 256 (0, 65535)) := by
  kernel_rfl
end Go.Proofs.YtoagfmonfgagbaaGreatDoor

namespace Go.Proofs.YtoagfmonfgagbaaGreatDoor
open Go.RowKit
set_option maxRecDepth 100000

theorem one_facts {w : World} {base : Nat} {v : Value} {al : Bool} {n : Int} {x : Nat × Nat} (h : RwO w base v ((ruA al n x).rules.map rwR)) : ∃ b off c, v = .slice (some ⟨b, off, none⟩) 1 c ∧ 1 ≤ c ∧ c ≤ 2 ^ 63 - 1 ∧ w.cell? ⟨b, off, none⟩ = some (.bool al) ∧ w.cell? ⟨b, off + 21, none⟩ = some (.int .i64 n) ∧ w.cell? ⟨b, off + 22, none⟩ = some (.int .i64 x.1) ∧ w.cell? ⟨b, off + 23, none⟩ = some (.int .i64 x.2) := by
  obtain ⟨A, c, hv, hs, _⟩ := RwS.of_own h
  obtain ⟨b, off, rfl, hr⟩ := hs.here 0 (rwR ⟨al, .inl ([97], false), n, x.1, x.2⟩) rfl
  obtain ⟨f0, f1, f2, f3, f4, f5, f6⟩ := rw_at (r := rwR ⟨al, .inl ([97], false), n, x.1, x.2⟩) (show List.length _ = 16 from rfl) hr
  have hm := hs.max
  unfold maxLen at hm
  exact ⟨b, off, c, hv, hs.cap, hm, f0, f3, f4, f5⟩
def bDA : List UInt8 := [100, 101, 110, 121, 32, 110, 97, 109, 101, 32, 97, 32, 97, 110, 121, 32, 42]
/-- A policy of one rule in a box. -/
def RowAt (w : World) (g : Nat) (al : Bool) (n : Int) (x : Nat × Nat) : Prop := ∃ v1 v2 base, RsBox w g v1 v2 ∧ RwO w base v2 ((ruA al n x).rules.map rwR)
theorem RowAt.later {w w' : World} {g : Nat} {al : Bool} {n : Int} {x : Nat × Nat} (h : RowAt w g al n x) (hb : Below w.heap.size w w') : RowAt w' g al n x := by
  obtain ⟨v1, v2, base, h1, h2⟩ := h
  exact ⟨v1, v2, base, (hb.block g (lt_blk h1)).trans h1, h2.later hb⟩
theorem RowAt.facts {w : World} {g : Nat} {al : Bool} {n : Int} {x : Nat × Nat} (h : RowAt w g al n x) : ∃ b off c, w.cell? ⟨g, 1, none⟩ = some (.slice (some ⟨b, off, none⟩) 1 c) ∧ 1 ≤ c ∧ c ≤ 2 ^ 63 - 1 ∧ w.cell? ⟨b, off, none⟩ = some (.bool al) ∧ w.cell? ⟨b, off + 21, none⟩ = some (.int .i64 n) ∧ w.cell? ⟨b, off + 22, none⟩ = some (.int .i64 x.1) ∧ w.cell? ⟨b, off + 23, none⟩ = some (.int .i64 x.2) := by
  obtain ⟨v1, v2, base, h1, h2⟩ := h
  obtain ⟨b, off, c, rfl, h3⟩ := one_facts h2
  exact ⟨b, off, c, cell_of_row w g 1 _ _ _ h1, h3⟩
set_option maxHeartbeats 8000000 in
theorem rulePorts_both (a b : Nat) (hA : a < 70000) (hB : b < 70000) (n0 n1 : Int) (hp : wrap64 ((IntKind.u64.wrap n0).tmod 70000) = (a : Int)) (hq : wrap64 ((IntKind.u64.wrap n1).tmod 70000) = (b : Int)) (ha : a ≤ b) (hb : b ≤ 65535) {w : World} (hE : Env19 w) : Calls Tryz.prog 7 #[.int .i64 n0, .int .i64 n1] w fun e w' => e = .returned (.bool true) ∧ Below w.heap.size w w' := by
  have HE := Lib.hid (And.intro hE (And.intro hp hq))
  have D0 := Lib.hid (digits_any a (by omega))
  have D1 := Lib.hid (digits_any b (by omega))
  have t1 := (text_one a).1 (by omega)
  have t2 := (text_two a b).1 (by omega) (by omega)
  have l0 : (mkS (Lib.decDigits a)).size ≤ 10 := by rw [Lib.size_eq, mkS_data]; exact Nat.le_trans (dec_len 7 a (by omega) (by decide)) (by omega)
  have l1 : (mkS (Lib.decDigits b)).size ≤ 10 := by rw [Lib.size_eq, mkS_data]; exact Nat.le_trans (dec_len 7 b (by omega) (by decide)) (by omega)
  rw [← cat_text] at t1
  have e2 : bAU ++ (Lib.decDigits a ++ 45 :: Lib.decDigits b) = (mkS bAU ++ mkS (Lib.decDigits a) ++ mkS [45] ++ mkS (Lib.decDigits b)).data.toList := by rw [mkS_cat, mkS_cat, mkS_cat, mkS_data]; simp
  rw [e2] at t2
  clear e2
  obtain ⟨J0, hJ0⟩ : ∃ J, mkS (Lib.decDigits a) = J := ⟨_, rfl⟩
  obtain ⟨J1, hJ1⟩ : ∃ J, mkS (Lib.decDigits b) = J := ⟨_, rfl⟩
  rw [hJ0] at D0 t1 t2 l0
  rw [hJ1] at D1 t2 l1
  have ia : (a : Int) ≤ 65535 := by omega
  have ib : (b : Int) ≤ 65535 := by omega
  have iab : (a : Int) ≤ (b : Int) := by omega
  have HT := Lib.hid (And.intro t1 t2)
  clear hE hp hq t1 t2 hJ0 hJ1
  go_enter Tryz.func7, Tryz.ntmps7
  go_wp2_with (first | rw [HE.out.2.1] | rw [HE.out.2.2])
  have H0 := Lib.hid (And.intro (Below.refl w.heap.size w) True.intro)
  refine (D0.out _).mono ?_
  rintro e w1 ⟨rfl, b1⟩
  have H1 := Lib.hid (And.intro (H0.out.1.trans (b1.mono H0.out.1.size)) b1)
  clear b1
  go_wp2_with fail
  refine (parsed_ok (s := mkS bAT ++ J0) (HE.out.1.later H1.out.1 (Nat.le_refl _)) (by have e17 : (mkS bAT).size = 17 := rfl; have eU : (mkS bAU).size = 17 := rfl; have e1 : (mkS [45]).size = 1 := rfl; have eD : (mkS bDA).size = 17 := rfl; (try simp only [ByteArray.size_append]); omega) HT.out.1).mono ?_
  rintro e w2p ⟨v1, v2, rfl, hA, hB, b2⟩
  have H2p := Lib.hid (And.intro (H1.out.1.trans (b2.mono H1.out.1.size)) (And.intro hA hB))
  have B2p := Lib.hid b2
  clear hA hB b2
  go_wp2_with (first
    | (refine wpList_alloc_rs rfl rfl ?_; intro w2a a2 b2 z2; have H2a := Lib.hid (And.intro a2 (And.intro b2 H2p.out.1.size)); clear a2 b2 z2)
    | (refine wpList_store_rs rfl (.tmp 5) (.tmp 26) rfl v1 v2 H2p.out.2.1.one H2p.out.2.2.one rfl rfl H2a.out.1 ?_; intro w2 a3 o3 z3 b3; have bb := b3 w2p.heap.size w2p (Nat.le_refl _) H2a.out.2.1; have H2 := Lib.hid (And.intro (H2p.out.1.trans (bb.mono H2p.out.1.size)) (And.intro bb (show RowAt w2 w2p.heap.size true 6 (a, a) from ⟨v1, v2, _, a3, H2p.out.2.2.later bb⟩))); clear a3 o3 z3 b3 bb))
  refine (D0.out _).mono ?_
  rintro e w3 ⟨rfl, b1⟩
  have H3 := Lib.hid (And.intro (H2.out.1.trans (b1.mono H2.out.1.size)) b1)
  clear b1
  go_wp2_with fail
  refine (D1.out _).mono ?_
  rintro e w4 ⟨rfl, b1⟩
  have H4 := Lib.hid (And.intro (H3.out.1.trans (b1.mono H3.out.1.size)) b1)
  clear b1
  go_wp2_with fail
  refine (parsed_ok (s := mkS bAU ++ J0 ++ mkS [45] ++ J1) (HE.out.1.later H4.out.1 (Nat.le_refl _)) (by have e17 : (mkS bAT).size = 17 := rfl; have eU : (mkS bAU).size = 17 := rfl; have e1 : (mkS [45]).size = 1 := rfl; have eD : (mkS bDA).size = 17 := rfl; (try simp only [ByteArray.size_append]); omega) HT.out.2).mono ?_
  rintro e w5p ⟨v1, v2, rfl, hA, hB, b2⟩
  have H5p := Lib.hid (And.intro (H4.out.1.trans (b2.mono H4.out.1.size)) (And.intro hA hB))
  have B5p := Lib.hid b2
  clear hA hB b2
  go_wp2_with (first
    | (refine wpList_alloc_rs rfl rfl ?_; intro w5a a2 b2 z2; have H5a := Lib.hid (And.intro a2 (And.intro b2 H5p.out.1.size)); clear a2 b2 z2)
    | (refine wpList_store_rs rfl (.tmp 7) (.tmp 37) rfl v1 v2 H5p.out.2.1.one H5p.out.2.2.one rfl rfl H5a.out.1 ?_; intro w5 a3 o3 z3 b3; have bb := b3 w5p.heap.size w5p (Nat.le_refl _) H5a.out.2.1; have H5 := Lib.hid (And.intro (H5p.out.1.trans (bb.mono H5p.out.1.size)) (And.intro bb (show RowAt w5 w5p.heap.size true 17 (a, b) from ⟨v1, v2, _, a3, H5p.out.2.2.later bb⟩))); clear a3 o3 z3 b3 bb))
  refine (parsed_ok (s := mkS bDA) (HE.out.1.later H5.out.1 (Nat.le_refl _)) (by have e17 : (mkS bAT).size = 17 := rfl; have eU : (mkS bAU).size = 17 := rfl; have e1 : (mkS [45]).size = 1 := rfl; have eD : (mkS bDA).size = 17 := rfl; (try simp only [ByteArray.size_append]); omega) text_all).mono ?_
  rintro e w6p ⟨v1, v2, rfl, hA, hB, b2⟩
  have H6p := Lib.hid (And.intro (H5.out.1.trans (b2.mono H5.out.1.size)) (And.intro hA hB))
  have B6p := Lib.hid b2
  clear hA hB b2
  go_wp2_with (first
    | (refine wpList_alloc_rs rfl rfl ?_; intro w6a a2 b2 z2; have H6a := Lib.hid (And.intro a2 (And.intro b2 H6p.out.1.size)); clear a2 b2 z2)
    | (refine wpList_store_rs rfl (.tmp 9) (.tmp 41) rfl v1 v2 H6p.out.2.1.one H6p.out.2.2.one rfl rfl H6a.out.1 ?_; intro w6 a3 o3 z3 b3; have bb := b3 w6p.heap.size w6p (Nat.le_refl _) H6a.out.2.1; have H6 := Lib.hid (And.intro (H6p.out.1.trans (bb.mono H6p.out.1.size)) (And.intro bb (show RowAt w6 w6p.heap.size false 256 (0, 65535) from ⟨v1, v2, _, a3, H6p.out.2.2.later bb⟩))); clear a3 o3 z3 b3 bb))
  refine (awake19 (HE.out.1.later H6.out.1 (Nat.le_refl _))).mono ?_
  rintro e w7 ⟨rfl, b7⟩
  have H7 := Lib.hid (H6.out.1.trans (b7.mono H6.out.1.size))
  obtain ⟨r5, p5, c5, a50, a51, a52, a53, a54, a55, a56⟩ := ((((((H2.out.2.2.later H3.out.2).later H4.out.2).later B5p.out).later H5.out.2.1).later B6p.out).later H6.out.2.1 |>.later b7).facts
  obtain ⟨r7, p7, c7, a70, a71, a72, a73, a74, a75, a76⟩ := (((H5.out.2.2.later B6p.out).later H6.out.2.1).later b7).facts
  obtain ⟨r9, p9, c9, a90, a91, a92, a93, a94, a95, a96⟩ := (H6.out.2.2.later b7).facts
  dsimp only at *
  clear b7
  go_wp2_with fail
  go_ret
  exact ⟨rfl, H7.out⟩
set_option maxHeartbeats 8000000 in
theorem rulePorts_big (a b : Nat) (hA : a < 70000) (hB : b < 70000) (n0 n1 : Int) (hp : wrap64 ((IntKind.u64.wrap n0).tmod 70000) = (a : Int)) (hq : wrap64 ((IntKind.u64.wrap n1).tmod 70000) = (b : Int)) (ha : a ≤ b) (hb : 65535 < b) (h1 : a ≤ 65535) {w : World} (hE : Env19 w) : Calls Tryz.prog 7 #[.int .i64 n0, .int .i64 n1] w fun e w' => e = .returned (.bool true) ∧ Below w.heap.size w w' := by
  have HE := Lib.hid (And.intro hE (And.intro hp hq))
  have D0 := Lib.hid (digits_any a (by omega))
  have D1 := Lib.hid (digits_any b (by omega))
  have t1 := (text_one a).1 (by omega)
  obtain ⟨y2, t2⟩ := (text_two a b).2 (by omega)
  have l0 : (mkS (Lib.decDigits a)).size ≤ 10 := by rw [Lib.size_eq, mkS_data]; exact Nat.le_trans (dec_len 7 a (by omega) (by decide)) (by omega)
  have l1 : (mkS (Lib.decDigits b)).size ≤ 10 := by rw [Lib.size_eq, mkS_data]; exact Nat.le_trans (dec_len 7 b (by omega) (by decide)) (by omega)
  rw [← cat_text] at t1
  have e2 : bAU ++ (Lib.decDigits a ++ 45 :: Lib.decDigits b) = (mkS bAU ++ mkS (Lib.decDigits a) ++ mkS [45] ++ mkS (Lib.decDigits b)).data.toList := by rw [mkS_cat, mkS_cat, mkS_cat, mkS_data]; simp
  rw [e2] at t2
  clear e2
  obtain ⟨J0, hJ0⟩ : ∃ J, mkS (Lib.decDigits a) = J := ⟨_, rfl⟩
  obtain ⟨J1, hJ1⟩ : ∃ J, mkS (Lib.decDigits b) = J := ⟨_, rfl⟩
  rw [hJ0] at D0 t1 t2 l0
  rw [hJ1] at D1 t2 l1
  have ia : (a : Int) ≤ 65535 := by omega
  have ib : (65535 : Int) < (b : Int) := by omega
  have iab : (a : Int) ≤ (b : Int) := by omega
  have HT := Lib.hid (And.intro t1 t2)
  clear hE hp hq t1 t2 hJ0 hJ1
  go_enter Tryz.func7, Tryz.ntmps7
  go_wp2_with (first | rw [HE.out.2.1] | rw [HE.out.2.2])
  have H0 := Lib.hid (And.intro (Below.refl w.heap.size w) True.intro)
  refine (D0.out _).mono ?_
  rintro e w1 ⟨rfl, b1⟩
  have H1 := Lib.hid (And.intro (H0.out.1.trans (b1.mono H0.out.1.size)) b1)
  clear b1
  go_wp2_with fail
  refine (parsed_ok (s := mkS bAT ++ J0) (HE.out.1.later H1.out.1 (Nat.le_refl _)) (by have e17 : (mkS bAT).size = 17 := rfl; have eU : (mkS bAU).size = 17 := rfl; have e1 : (mkS [45]).size = 1 := rfl; have eD : (mkS bDA).size = 17 := rfl; (try simp only [ByteArray.size_append]); omega) HT.out.1).mono ?_
  rintro e w2p ⟨v1, v2, rfl, hA, hB, b2⟩
  have H2p := Lib.hid (And.intro (H1.out.1.trans (b2.mono H1.out.1.size)) (And.intro hA hB))
  have B2p := Lib.hid b2
  clear hA hB b2
  go_wp2_with (first
    | (refine wpList_alloc_rs rfl rfl ?_; intro w2a a2 b2 z2; have H2a := Lib.hid (And.intro a2 (And.intro b2 H2p.out.1.size)); clear a2 b2 z2)
    | (refine wpList_store_rs rfl (.tmp 5) (.tmp 26) rfl v1 v2 H2p.out.2.1.one H2p.out.2.2.one rfl rfl H2a.out.1 ?_; intro w2 a3 o3 z3 b3; have bb := b3 w2p.heap.size w2p (Nat.le_refl _) H2a.out.2.1; have H2 := Lib.hid (And.intro (H2p.out.1.trans (bb.mono H2p.out.1.size)) (And.intro bb (show RowAt w2 w2p.heap.size true 6 (a, a) from ⟨v1, v2, _, a3, H2p.out.2.2.later bb⟩))); clear a3 o3 z3 b3 bb))
  refine (D0.out _).mono ?_
  rintro e w3 ⟨rfl, b1⟩
  have H3 := Lib.hid (And.intro (H2.out.1.trans (b1.mono H2.out.1.size)) b1)
  clear b1
  go_wp2_with fail
  refine (D1.out _).mono ?_
  rintro e w4 ⟨rfl, b1⟩
  have H4 := Lib.hid (And.intro (H3.out.1.trans (b1.mono H3.out.1.size)) b1)
  clear b1
  go_wp2_with fail
  refine (parsed_err (s := mkS bAU ++ J0 ++ mkS [45] ++ J1) (HE.out.1.later H4.out.1 (Nat.le_refl _)) (by have e17 : (mkS bAT).size = 17 := rfl; have eU : (mkS bAU).size = 17 := rfl; have e1 : (mkS [45]).size = 1 := rfl; have eD : (mkS bDA).size = 17 := rfl; (try simp only [ByteArray.size_append]); omega) HT.out.2).mono ?_
  rintro e w5p ⟨gx5, rfl, hg, b2⟩
  have H5p := Lib.hid (And.intro (H4.out.1.trans (b2.mono H4.out.1.size)) True.intro)
  have B5p := Lib.hid b2
  clear hg b2
  go_wp2_with (first
    | (refine wpList_alloc_rs rfl rfl ?_; intro w5a a2 b2 z2; have H5a := Lib.hid (And.intro a2 (And.intro b2 H5p.out.1.size)); clear a2 b2 z2)
    | (refine wpList_store_rs rfl (.tmp 7) (.tmp 37) rfl (.slice none 0 0) (.slice none 0 0) rfl rfl rfl rfl H5a.out.1 ?_; intro w5 a3 o3 z3 b3; have bb := b3 w5p.heap.size w5p (Nat.le_refl _) H5a.out.2.1; have H5 := Lib.hid (And.intro (H5p.out.1.trans (bb.mono H5p.out.1.size)) (And.intro bb True.intro)); clear a3 o3 z3 b3 bb))
  refine (parsed_ok (s := mkS bDA) (HE.out.1.later H5.out.1 (Nat.le_refl _)) (by have e17 : (mkS bAT).size = 17 := rfl; have eU : (mkS bAU).size = 17 := rfl; have e1 : (mkS [45]).size = 1 := rfl; have eD : (mkS bDA).size = 17 := rfl; (try simp only [ByteArray.size_append]); omega) text_all).mono ?_
  rintro e w6p ⟨v1, v2, rfl, hA, hB, b2⟩
  have H6p := Lib.hid (And.intro (H5.out.1.trans (b2.mono H5.out.1.size)) (And.intro hA hB))
  have B6p := Lib.hid b2
  clear hA hB b2
  go_wp2_with (first
    | (refine wpList_alloc_rs rfl rfl ?_; intro w6a a2 b2 z2; have H6a := Lib.hid (And.intro a2 (And.intro b2 H6p.out.1.size)); clear a2 b2 z2)
    | (refine wpList_store_rs rfl (.tmp 9) (.tmp 41) rfl v1 v2 H6p.out.2.1.one H6p.out.2.2.one rfl rfl H6a.out.1 ?_; intro w6 a3 o3 z3 b3; have bb := b3 w6p.heap.size w6p (Nat.le_refl _) H6a.out.2.1; have H6 := Lib.hid (And.intro (H6p.out.1.trans (bb.mono H6p.out.1.size)) (And.intro bb (show RowAt w6 w6p.heap.size false 256 (0, 65535) from ⟨v1, v2, _, a3, H6p.out.2.2.later bb⟩))); clear a3 o3 z3 b3 bb))
  refine (awake19 (HE.out.1.later H6.out.1 (Nat.le_refl _))).mono ?_
  rintro e w7 ⟨rfl, b7⟩
  have H7 := Lib.hid (H6.out.1.trans (b7.mono H6.out.1.size))
  obtain ⟨r5, p5, c5, a50, a51, a52, a53, a54, a55, a56⟩ := ((((((H2.out.2.2.later H3.out.2).later H4.out.2).later B5p.out).later H5.out.2.1).later B6p.out).later H6.out.2.1 |>.later b7).facts
  obtain ⟨r9, p9, c9, a90, a91, a92, a93, a94, a95, a96⟩ := (H6.out.2.2.later b7).facts
  dsimp only at *
  clear b7
  go_wp2_with fail
  go_ret
  exact ⟨rfl, H7.out⟩
set_option maxHeartbeats 8000000 in
theorem rulePorts_less (a b : Nat) (hA : a < 70000) (hB : b < 70000) (n0 n1 : Int) (hp : wrap64 ((IntKind.u64.wrap n0).tmod 70000) = (a : Int)) (hq : wrap64 ((IntKind.u64.wrap n1).tmod 70000) = (b : Int)) (ha : b < a) (h1 : a ≤ 65535) {w : World} (hE : Env19 w) : Calls Tryz.prog 7 #[.int .i64 n0, .int .i64 n1] w fun e w' => e = .returned (.bool true) ∧ Below w.heap.size w w' := by
  have HE := Lib.hid (And.intro hE (And.intro hp hq))
  have D0 := Lib.hid (digits_any a (by omega))
  have D1 := Lib.hid (digits_any b (by omega))
  have t1 := (text_one a).1 (by omega)
  obtain ⟨y2, t2⟩ := (text_two a b).2 (by omega)
  have l0 : (mkS (Lib.decDigits a)).size ≤ 10 := by rw [Lib.size_eq, mkS_data]; exact Nat.le_trans (dec_len 7 a (by omega) (by decide)) (by omega)
  have l1 : (mkS (Lib.decDigits b)).size ≤ 10 := by rw [Lib.size_eq, mkS_data]; exact Nat.le_trans (dec_len 7 b (by omega) (by decide)) (by omega)
  rw [← cat_text] at t1
  have e2 : bAU ++ (Lib.decDigits a ++ 45 :: Lib.decDigits b) = (mkS bAU ++ mkS (Lib.decDigits a) ++ mkS [45] ++ mkS (Lib.decDigits b)).data.toList := by rw [mkS_cat, mkS_cat, mkS_cat, mkS_data]; simp
  rw [e2] at t2
  clear e2
  obtain ⟨J0, hJ0⟩ : ∃ J, mkS (Lib.decDigits a) = J := ⟨_, rfl⟩
  obtain ⟨J1, hJ1⟩ : ∃ J, mkS (Lib.decDigits b) = J := ⟨_, rfl⟩
  rw [hJ0] at D0 t1 t2 l0
  rw [hJ1] at D1 t2 l1
  have ia : (a : Int) ≤ 65535 := by omega
  have iab : (b : Int) < (a : Int) := by omega
  have HT := Lib.hid (And.intro t1 t2)
  clear hE hp hq t1 t2 hJ0 hJ1
  go_enter Tryz.func7, Tryz.ntmps7
  go_wp2_with (first | rw [HE.out.2.1] | rw [HE.out.2.2])
  have H0 := Lib.hid (And.intro (Below.refl w.heap.size w) True.intro)
  refine (D0.out _).mono ?_
  rintro e w1 ⟨rfl, b1⟩
  have H1 := Lib.hid (And.intro (H0.out.1.trans (b1.mono H0.out.1.size)) b1)
  clear b1
  go_wp2_with fail
  refine (parsed_ok (s := mkS bAT ++ J0) (HE.out.1.later H1.out.1 (Nat.le_refl _)) (by have e17 : (mkS bAT).size = 17 := rfl; have eU : (mkS bAU).size = 17 := rfl; have e1 : (mkS [45]).size = 1 := rfl; have eD : (mkS bDA).size = 17 := rfl; (try simp only [ByteArray.size_append]); omega) HT.out.1).mono ?_
  rintro e w2p ⟨v1, v2, rfl, hA, hB, b2⟩
  have H2p := Lib.hid (And.intro (H1.out.1.trans (b2.mono H1.out.1.size)) (And.intro hA hB))
  have B2p := Lib.hid b2
  clear hA hB b2
  go_wp2_with (first
    | (refine wpList_alloc_rs rfl rfl ?_; intro w2a a2 b2 z2; have H2a := Lib.hid (And.intro a2 (And.intro b2 H2p.out.1.size)); clear a2 b2 z2)
    | (refine wpList_store_rs rfl (.tmp 5) (.tmp 26) rfl v1 v2 H2p.out.2.1.one H2p.out.2.2.one rfl rfl H2a.out.1 ?_; intro w2 a3 o3 z3 b3; have bb := b3 w2p.heap.size w2p (Nat.le_refl _) H2a.out.2.1; have H2 := Lib.hid (And.intro (H2p.out.1.trans (bb.mono H2p.out.1.size)) (And.intro bb (show RowAt w2 w2p.heap.size true 6 (a, a) from ⟨v1, v2, _, a3, H2p.out.2.2.later bb⟩))); clear a3 o3 z3 b3 bb))
  refine (D0.out _).mono ?_
  rintro e w3 ⟨rfl, b1⟩
  have H3 := Lib.hid (And.intro (H2.out.1.trans (b1.mono H2.out.1.size)) b1)
  clear b1
  go_wp2_with fail
  refine (D1.out _).mono ?_
  rintro e w4 ⟨rfl, b1⟩
  have H4 := Lib.hid (And.intro (H3.out.1.trans (b1.mono H3.out.1.size)) b1)
  clear b1
  go_wp2_with fail
  refine (parsed_err (s := mkS bAU ++ J0 ++ mkS [45] ++ J1) (HE.out.1.later H4.out.1 (Nat.le_refl _)) (by have e17 : (mkS bAT).size = 17 := rfl; have eU : (mkS bAU).size = 17 := rfl; have e1 : (mkS [45]).size = 1 := rfl; have eD : (mkS bDA).size = 17 := rfl; (try simp only [ByteArray.size_append]); omega) HT.out.2).mono ?_
  rintro e w5p ⟨gx5, rfl, hg, b2⟩
  have H5p := Lib.hid (And.intro (H4.out.1.trans (b2.mono H4.out.1.size)) True.intro)
  have B5p := Lib.hid b2
  clear hg b2
  go_wp2_with (first
    | (refine wpList_alloc_rs rfl rfl ?_; intro w5a a2 b2 z2; have H5a := Lib.hid (And.intro a2 (And.intro b2 H5p.out.1.size)); clear a2 b2 z2)
    | (refine wpList_store_rs rfl (.tmp 7) (.tmp 37) rfl (.slice none 0 0) (.slice none 0 0) rfl rfl rfl rfl H5a.out.1 ?_; intro w5 a3 o3 z3 b3; have bb := b3 w5p.heap.size w5p (Nat.le_refl _) H5a.out.2.1; have H5 := Lib.hid (And.intro (H5p.out.1.trans (bb.mono H5p.out.1.size)) (And.intro bb True.intro)); clear a3 o3 z3 b3 bb))
  refine (parsed_ok (s := mkS bDA) (HE.out.1.later H5.out.1 (Nat.le_refl _)) (by have e17 : (mkS bAT).size = 17 := rfl; have eU : (mkS bAU).size = 17 := rfl; have e1 : (mkS [45]).size = 1 := rfl; have eD : (mkS bDA).size = 17 := rfl; (try simp only [ByteArray.size_append]); omega) text_all).mono ?_
  rintro e w6p ⟨v1, v2, rfl, hA, hB, b2⟩
  have H6p := Lib.hid (And.intro (H5.out.1.trans (b2.mono H5.out.1.size)) (And.intro hA hB))
  have B6p := Lib.hid b2
  clear hA hB b2
  go_wp2_with (first
    | (refine wpList_alloc_rs rfl rfl ?_; intro w6a a2 b2 z2; have H6a := Lib.hid (And.intro a2 (And.intro b2 H6p.out.1.size)); clear a2 b2 z2)
    | (refine wpList_store_rs rfl (.tmp 9) (.tmp 41) rfl v1 v2 H6p.out.2.1.one H6p.out.2.2.one rfl rfl H6a.out.1 ?_; intro w6 a3 o3 z3 b3; have bb := b3 w6p.heap.size w6p (Nat.le_refl _) H6a.out.2.1; have H6 := Lib.hid (And.intro (H6p.out.1.trans (bb.mono H6p.out.1.size)) (And.intro bb (show RowAt w6 w6p.heap.size false 256 (0, 65535) from ⟨v1, v2, _, a3, H6p.out.2.2.later bb⟩))); clear a3 o3 z3 b3 bb))
  refine (awake19 (HE.out.1.later H6.out.1 (Nat.le_refl _))).mono ?_
  rintro e w7 ⟨rfl, b7⟩
  have H7 := Lib.hid (H6.out.1.trans (b7.mono H6.out.1.size))
  obtain ⟨r5, p5, c5, a50, a51, a52, a53, a54, a55, a56⟩ := ((((((H2.out.2.2.later H3.out.2).later H4.out.2).later B5p.out).later H5.out.2.1).later B6p.out).later H6.out.2.1 |>.later b7).facts
  obtain ⟨r9, p9, c9, a90, a91, a92, a93, a94, a95, a96⟩ := (H6.out.2.2.later b7).facts
  dsimp only at *
  clear b7
  go_wp2_with fail
  go_ret
  exact ⟨rfl, H7.out⟩
set_option maxHeartbeats 8000000 in
theorem rulePorts_none (a b : Nat) (hA : a < 70000) (hB : b < 70000) (n0 n1 : Int) (hp : wrap64 ((IntKind.u64.wrap n0).tmod 70000) = (a : Int)) (hq : wrap64 ((IntKind.u64.wrap n1).tmod 70000) = (b : Int)) (ha : a ≤ b) (h1 : 65535 < a) {w : World} (hE : Env19 w) : Calls Tryz.prog 7 #[.int .i64 n0, .int .i64 n1] w fun e w' => e = .returned (.bool true) ∧ Below w.heap.size w w' := by
  have HE := Lib.hid (And.intro hE (And.intro hp hq))
  have D0 := Lib.hid (digits_any a (by omega))
  have D1 := Lib.hid (digits_any b (by omega))
  obtain ⟨y1, t1⟩ := (text_one a).2 (by omega)
  obtain ⟨y2, t2⟩ := (text_two a b).2 (by omega)
  have l0 : (mkS (Lib.decDigits a)).size ≤ 10 := by rw [Lib.size_eq, mkS_data]; exact Nat.le_trans (dec_len 7 a (by omega) (by decide)) (by omega)
  have l1 : (mkS (Lib.decDigits b)).size ≤ 10 := by rw [Lib.size_eq, mkS_data]; exact Nat.le_trans (dec_len 7 b (by omega) (by decide)) (by omega)
  rw [← cat_text] at t1
  have e2 : bAU ++ (Lib.decDigits a ++ 45 :: Lib.decDigits b) = (mkS bAU ++ mkS (Lib.decDigits a) ++ mkS [45] ++ mkS (Lib.decDigits b)).data.toList := by rw [mkS_cat, mkS_cat, mkS_cat, mkS_data]; simp
  rw [e2] at t2
  clear e2
  obtain ⟨J0, hJ0⟩ : ∃ J, mkS (Lib.decDigits a) = J := ⟨_, rfl⟩
  obtain ⟨J1, hJ1⟩ : ∃ J, mkS (Lib.decDigits b) = J := ⟨_, rfl⟩
  rw [hJ0] at D0 t1 t2 l0
  rw [hJ1] at D1 t2 l1
  have ia : (65535 : Int) < (a : Int) := by omega
  have ib : (65535 : Int) < (b : Int) := by omega
  have iab : (a : Int) ≤ (b : Int) := by omega
  have HT := Lib.hid (And.intro t1 t2)
  clear hE hp hq t1 t2 hJ0 hJ1
  go_enter Tryz.func7, Tryz.ntmps7
  go_wp2_with (first | rw [HE.out.2.1] | rw [HE.out.2.2])
  have H0 := Lib.hid (And.intro (Below.refl w.heap.size w) True.intro)
  refine (D0.out _).mono ?_
  rintro e w1 ⟨rfl, b1⟩
  have H1 := Lib.hid (And.intro (H0.out.1.trans (b1.mono H0.out.1.size)) b1)
  clear b1
  go_wp2_with fail
  refine (parsed_err (s := mkS bAT ++ J0) (HE.out.1.later H1.out.1 (Nat.le_refl _)) (by have e17 : (mkS bAT).size = 17 := rfl; have eU : (mkS bAU).size = 17 := rfl; have e1 : (mkS [45]).size = 1 := rfl; have eD : (mkS bDA).size = 17 := rfl; (try simp only [ByteArray.size_append]); omega) HT.out.1).mono ?_
  rintro e w2p ⟨gx2, rfl, hg, b2⟩
  have H2p := Lib.hid (And.intro (H1.out.1.trans (b2.mono H1.out.1.size)) True.intro)
  have B2p := Lib.hid b2
  clear hg b2
  go_wp2_with (first
    | (refine wpList_alloc_rs rfl rfl ?_; intro w2a a2 b2 z2; have H2a := Lib.hid (And.intro a2 (And.intro b2 H2p.out.1.size)); clear a2 b2 z2)
    | (refine wpList_store_rs rfl (.tmp 5) (.tmp 26) rfl (.slice none 0 0) (.slice none 0 0) rfl rfl rfl rfl H2a.out.1 ?_; intro w2 a3 o3 z3 b3; have bb := b3 w2p.heap.size w2p (Nat.le_refl _) H2a.out.2.1; have H2 := Lib.hid (And.intro (H2p.out.1.trans (bb.mono H2p.out.1.size)) (And.intro bb True.intro)); clear a3 o3 z3 b3 bb))
  refine (D0.out _).mono ?_
  rintro e w3 ⟨rfl, b1⟩
  have H3 := Lib.hid (And.intro (H2.out.1.trans (b1.mono H2.out.1.size)) b1)
  clear b1
  go_wp2_with fail
  refine (D1.out _).mono ?_
  rintro e w4 ⟨rfl, b1⟩
  have H4 := Lib.hid (And.intro (H3.out.1.trans (b1.mono H3.out.1.size)) b1)
  clear b1
  go_wp2_with fail
  refine (parsed_err (s := mkS bAU ++ J0 ++ mkS [45] ++ J1) (HE.out.1.later H4.out.1 (Nat.le_refl _)) (by have e17 : (mkS bAT).size = 17 := rfl; have eU : (mkS bAU).size = 17 := rfl; have e1 : (mkS [45]).size = 1 := rfl; have eD : (mkS bDA).size = 17 := rfl; (try simp only [ByteArray.size_append]); omega) HT.out.2).mono ?_
  rintro e w5p ⟨gx5, rfl, hg, b2⟩
  have H5p := Lib.hid (And.intro (H4.out.1.trans (b2.mono H4.out.1.size)) True.intro)
  have B5p := Lib.hid b2
  clear hg b2
  go_wp2_with (first
    | (refine wpList_alloc_rs rfl rfl ?_; intro w5a a2 b2 z2; have H5a := Lib.hid (And.intro a2 (And.intro b2 H5p.out.1.size)); clear a2 b2 z2)
    | (refine wpList_store_rs rfl (.tmp 7) (.tmp 37) rfl (.slice none 0 0) (.slice none 0 0) rfl rfl rfl rfl H5a.out.1 ?_; intro w5 a3 o3 z3 b3; have bb := b3 w5p.heap.size w5p (Nat.le_refl _) H5a.out.2.1; have H5 := Lib.hid (And.intro (H5p.out.1.trans (bb.mono H5p.out.1.size)) (And.intro bb True.intro)); clear a3 o3 z3 b3 bb))
  refine (parsed_ok (s := mkS bDA) (HE.out.1.later H5.out.1 (Nat.le_refl _)) (by have e17 : (mkS bAT).size = 17 := rfl; have eU : (mkS bAU).size = 17 := rfl; have e1 : (mkS [45]).size = 1 := rfl; have eD : (mkS bDA).size = 17 := rfl; (try simp only [ByteArray.size_append]); omega) text_all).mono ?_
  rintro e w6p ⟨v1, v2, rfl, hA, hB, b2⟩
  have H6p := Lib.hid (And.intro (H5.out.1.trans (b2.mono H5.out.1.size)) (And.intro hA hB))
  have B6p := Lib.hid b2
  clear hA hB b2
  go_wp2_with (first
    | (refine wpList_alloc_rs rfl rfl ?_; intro w6a a2 b2 z2; have H6a := Lib.hid (And.intro a2 (And.intro b2 H6p.out.1.size)); clear a2 b2 z2)
    | (refine wpList_store_rs rfl (.tmp 9) (.tmp 41) rfl v1 v2 H6p.out.2.1.one H6p.out.2.2.one rfl rfl H6a.out.1 ?_; intro w6 a3 o3 z3 b3; have bb := b3 w6p.heap.size w6p (Nat.le_refl _) H6a.out.2.1; have H6 := Lib.hid (And.intro (H6p.out.1.trans (bb.mono H6p.out.1.size)) (And.intro bb (show RowAt w6 w6p.heap.size false 256 (0, 65535) from ⟨v1, v2, _, a3, H6p.out.2.2.later bb⟩))); clear a3 o3 z3 b3 bb))
  refine (awake19 (HE.out.1.later H6.out.1 (Nat.le_refl _))).mono ?_
  rintro e w7 ⟨rfl, b7⟩
  have H7 := Lib.hid (H6.out.1.trans (b7.mono H6.out.1.size))
  obtain ⟨r9, p9, c9, a90, a91, a92, a93, a94, a95, a96⟩ := (H6.out.2.2.later b7).facts
  dsimp only at *
  clear b7
  go_wp2_with fail
  go_ret
  exact ⟨rfl, H7.out⟩
set_option maxHeartbeats 8000000 in
theorem rulePorts_nless (a b : Nat) (hA : a < 70000) (hB : b < 70000) (n0 n1 : Int) (hp : wrap64 ((IntKind.u64.wrap n0).tmod 70000) = (a : Int)) (hq : wrap64 ((IntKind.u64.wrap n1).tmod 70000) = (b : Int)) (ha : b < a) (h1 : 65535 < a) {w : World} (hE : Env19 w) : Calls Tryz.prog 7 #[.int .i64 n0, .int .i64 n1] w fun e w' => e = .returned (.bool true) ∧ Below w.heap.size w w' := by
  have HE := Lib.hid (And.intro hE (And.intro hp hq))
  have D0 := Lib.hid (digits_any a (by omega))
  have D1 := Lib.hid (digits_any b (by omega))
  obtain ⟨y1, t1⟩ := (text_one a).2 (by omega)
  obtain ⟨y2, t2⟩ := (text_two a b).2 (by omega)
  have l0 : (mkS (Lib.decDigits a)).size ≤ 10 := by rw [Lib.size_eq, mkS_data]; exact Nat.le_trans (dec_len 7 a (by omega) (by decide)) (by omega)
  have l1 : (mkS (Lib.decDigits b)).size ≤ 10 := by rw [Lib.size_eq, mkS_data]; exact Nat.le_trans (dec_len 7 b (by omega) (by decide)) (by omega)
  rw [← cat_text] at t1
  have e2 : bAU ++ (Lib.decDigits a ++ 45 :: Lib.decDigits b) = (mkS bAU ++ mkS (Lib.decDigits a) ++ mkS [45] ++ mkS (Lib.decDigits b)).data.toList := by rw [mkS_cat, mkS_cat, mkS_cat, mkS_data]; simp
  rw [e2] at t2
  clear e2
  obtain ⟨J0, hJ0⟩ : ∃ J, mkS (Lib.decDigits a) = J := ⟨_, rfl⟩
  obtain ⟨J1, hJ1⟩ : ∃ J, mkS (Lib.decDigits b) = J := ⟨_, rfl⟩
  rw [hJ0] at D0 t1 t2 l0
  rw [hJ1] at D1 t2 l1
  have ia : (65535 : Int) < (a : Int) := by omega
  have iab : (b : Int) < (a : Int) := by omega
  have HT := Lib.hid (And.intro t1 t2)
  clear hE hp hq t1 t2 hJ0 hJ1
  go_enter Tryz.func7, Tryz.ntmps7
  go_wp2_with (first | rw [HE.out.2.1] | rw [HE.out.2.2])
  have H0 := Lib.hid (And.intro (Below.refl w.heap.size w) True.intro)
  refine (D0.out _).mono ?_
  rintro e w1 ⟨rfl, b1⟩
  have H1 := Lib.hid (And.intro (H0.out.1.trans (b1.mono H0.out.1.size)) b1)
  clear b1
  go_wp2_with fail
  refine (parsed_err (s := mkS bAT ++ J0) (HE.out.1.later H1.out.1 (Nat.le_refl _)) (by have e17 : (mkS bAT).size = 17 := rfl; have eU : (mkS bAU).size = 17 := rfl; have e1 : (mkS [45]).size = 1 := rfl; have eD : (mkS bDA).size = 17 := rfl; (try simp only [ByteArray.size_append]); omega) HT.out.1).mono ?_
  rintro e w2p ⟨gx2, rfl, hg, b2⟩
  have H2p := Lib.hid (And.intro (H1.out.1.trans (b2.mono H1.out.1.size)) True.intro)
  have B2p := Lib.hid b2
  clear hg b2
  go_wp2_with (first
    | (refine wpList_alloc_rs rfl rfl ?_; intro w2a a2 b2 z2; have H2a := Lib.hid (And.intro a2 (And.intro b2 H2p.out.1.size)); clear a2 b2 z2)
    | (refine wpList_store_rs rfl (.tmp 5) (.tmp 26) rfl (.slice none 0 0) (.slice none 0 0) rfl rfl rfl rfl H2a.out.1 ?_; intro w2 a3 o3 z3 b3; have bb := b3 w2p.heap.size w2p (Nat.le_refl _) H2a.out.2.1; have H2 := Lib.hid (And.intro (H2p.out.1.trans (bb.mono H2p.out.1.size)) (And.intro bb True.intro)); clear a3 o3 z3 b3 bb))
  refine (D0.out _).mono ?_
  rintro e w3 ⟨rfl, b1⟩
  have H3 := Lib.hid (And.intro (H2.out.1.trans (b1.mono H2.out.1.size)) b1)
  clear b1
  go_wp2_with fail
  refine (D1.out _).mono ?_
  rintro e w4 ⟨rfl, b1⟩
  have H4 := Lib.hid (And.intro (H3.out.1.trans (b1.mono H3.out.1.size)) b1)
  clear b1
  go_wp2_with fail
  refine (parsed_err (s := mkS bAU ++ J0 ++ mkS [45] ++ J1) (HE.out.1.later H4.out.1 (Nat.le_refl _)) (by have e17 : (mkS bAT).size = 17 := rfl; have eU : (mkS bAU).size = 17 := rfl; have e1 : (mkS [45]).size = 1 := rfl; have eD : (mkS bDA).size = 17 := rfl; (try simp only [ByteArray.size_append]); omega) HT.out.2).mono ?_
  rintro e w5p ⟨gx5, rfl, hg, b2⟩
  have H5p := Lib.hid (And.intro (H4.out.1.trans (b2.mono H4.out.1.size)) True.intro)
  have B5p := Lib.hid b2
  clear hg b2
  go_wp2_with (first
    | (refine wpList_alloc_rs rfl rfl ?_; intro w5a a2 b2 z2; have H5a := Lib.hid (And.intro a2 (And.intro b2 H5p.out.1.size)); clear a2 b2 z2)
    | (refine wpList_store_rs rfl (.tmp 7) (.tmp 37) rfl (.slice none 0 0) (.slice none 0 0) rfl rfl rfl rfl H5a.out.1 ?_; intro w5 a3 o3 z3 b3; have bb := b3 w5p.heap.size w5p (Nat.le_refl _) H5a.out.2.1; have H5 := Lib.hid (And.intro (H5p.out.1.trans (bb.mono H5p.out.1.size)) (And.intro bb True.intro)); clear a3 o3 z3 b3 bb))
  refine (parsed_ok (s := mkS bDA) (HE.out.1.later H5.out.1 (Nat.le_refl _)) (by have e17 : (mkS bAT).size = 17 := rfl; have eU : (mkS bAU).size = 17 := rfl; have e1 : (mkS [45]).size = 1 := rfl; have eD : (mkS bDA).size = 17 := rfl; (try simp only [ByteArray.size_append]); omega) text_all).mono ?_
  rintro e w6p ⟨v1, v2, rfl, hA, hB, b2⟩
  have H6p := Lib.hid (And.intro (H5.out.1.trans (b2.mono H5.out.1.size)) (And.intro hA hB))
  have B6p := Lib.hid b2
  clear hA hB b2
  go_wp2_with (first
    | (refine wpList_alloc_rs rfl rfl ?_; intro w6a a2 b2 z2; have H6a := Lib.hid (And.intro a2 (And.intro b2 H6p.out.1.size)); clear a2 b2 z2)
    | (refine wpList_store_rs rfl (.tmp 9) (.tmp 41) rfl v1 v2 H6p.out.2.1.one H6p.out.2.2.one rfl rfl H6a.out.1 ?_; intro w6 a3 o3 z3 b3; have bb := b3 w6p.heap.size w6p (Nat.le_refl _) H6a.out.2.1; have H6 := Lib.hid (And.intro (H6p.out.1.trans (bb.mono H6p.out.1.size)) (And.intro bb (show RowAt w6 w6p.heap.size false 256 (0, 65535) from ⟨v1, v2, _, a3, H6p.out.2.2.later bb⟩))); clear a3 o3 z3 b3 bb))
  refine (awake19 (HE.out.1.later H6.out.1 (Nat.le_refl _))).mono ?_
  rintro e w7 ⟨rfl, b7⟩
  have H7 := Lib.hid (H6.out.1.trans (b7.mono H6.out.1.size))
  obtain ⟨r9, p9, c9, a90, a91, a92, a93, a94, a95, a96⟩ := (H6.out.2.2.later b7).facts
  dsimp only at *
  clear b7
  go_wp2_with fail
  go_ret
  exact ⟨rfl, H7.out⟩
theorem rulePorts (n0 n1 : Int) {w : World} (hE : Env19 w) : Calls Tryz.prog 7 #[.int .i64 n0, .int .i64 n1] w fun e w' => e = .returned (.bool true) ∧ Below w.heap.size w w' := by
  obtain ⟨q1, q2⟩ := num_mod19 n0 70000 (by omega) (by omega)
  obtain ⟨q3, q4⟩ := num_mod19 n1 70000 (by omega) (by omega)
  obtain ⟨a, hp⟩ : ∃ a : Nat, wrap64 ((IntKind.u64.wrap n0).tmod 70000) = (a : Int) := ⟨_, (Int.toNat_of_nonneg q1).symm⟩
  obtain ⟨b, hq⟩ : ∃ b : Nat, wrap64 ((IntKind.u64.wrap n1).tmod 70000) = (b : Int) := ⟨_, (Int.toNat_of_nonneg q3).symm⟩
  have hA : a < 70000 := by omega
  have hB : b < 70000 := by omega
  by_cases h1 : a ≤ b
  · by_cases h2 : b ≤ 65535
    · exact rulePorts_both a b hA hB n0 n1 hp hq h1 h2 hE
    · by_cases h3 : a ≤ 65535
      · exact rulePorts_big a b hA hB n0 n1 hp hq h1 (by omega) h3 hE
      · exact rulePorts_none a b hA hB n0 n1 hp hq h1 (by omega) hE
  · by_cases h3 : a ≤ 65535
    · exact rulePorts_less a b hA hB n0 n1 hp hq (by omega) h3 hE
    · exact rulePorts_nless a b hA hB n0 n1 hp hq (by omega) (by omega) hE
end Go.Proofs.YtoagfmonfgagbaaGreatDoor

namespace Go.Proofs.YtoagfmonfgagbaaGreatDoor
open Go.RowKit
set_option maxRecDepth 100000

/-- The texts, their errors' numbers (0: none), their places. -/
def refT : List (List UInt8 × Int × Nat) := [([112, 101, 114, 109, 105, 116], 15, 0), ([114, 101, 115, 111, 108, 118, 101, 114], 15, 8), ([114, 101, 115, 111, 108, 118, 101, 114, 32, 120], 17, 9), ([114, 101, 115, 111, 108, 118, 101, 114, 32, 49, 46, 50, 46, 51, 46, 52, 32, 120], 15, 17), ([114, 101, 115, 111, 108, 118, 101, 114, 32, 49, 46, 50, 46, 51, 46, 52, 10, 114, 101, 115, 111, 108, 118, 101, 114, 32, 49, 46, 50, 46, 51, 46, 52], 19, 26), ([97, 108, 108, 111, 119], 15, 5), ([97, 108, 108, 111, 119, 32, 104, 111, 115, 116, 32, 97, 32, 116, 99, 112, 32, 49], 15, 6), ([97, 108, 108, 111, 119, 32, 110, 97, 109, 101], 15, 10), ([97, 108, 108, 111, 119, 32, 110, 97, 109, 101, 32, 65, 32, 116, 99, 112, 32, 49], 13, 11), ([97, 108, 108, 111, 119, 32, 110, 97, 109, 101, 32, 42, 46, 42, 46, 97, 32, 116, 99, 112, 32, 49], 13, 11), ([97, 108, 108, 111, 119, 32, 110, 97, 109, 101, 32, 97], 15, 12), ([97, 108, 108, 111, 119, 32, 110, 97, 109, 101, 32, 97, 32, 115, 99, 116, 112, 32, 49], 15, 13), ([97, 108, 108, 111, 119, 32, 110, 97, 109, 101, 32, 97, 32, 116, 99, 112], 15, 16), ([97, 108, 108, 111, 119, 32, 110, 97, 109, 101, 32, 97, 32, 116, 99, 112, 32, 50, 45, 49], 16, 17), ([97, 108, 108, 111, 119, 32, 110, 97, 109, 101, 32, 97, 32, 116, 99, 112, 32, 54, 53, 53, 51, 54], 16, 17), ([97, 108, 108, 111, 119, 32, 110, 97, 109, 101, 32, 97, 32, 116, 99, 112, 32, 48, 49], 16, 17), ([97, 108, 108, 111, 119, 32, 110, 97, 109, 101, 32, 97, 32, 116, 99, 112, 32, 49, 32, 120], 15, 19), ([97, 108, 108, 111, 119, 32, 110, 101, 116, 32, 49, 46, 50, 46, 51, 46, 52, 47, 56, 32, 116, 99, 112, 32, 49], 17, 10), ([97, 108, 108, 111, 119, 32, 110, 101, 116, 32, 49, 46, 50, 46, 51, 46, 52, 32, 116, 99, 112, 32, 49], 17, 10), ([100, 101, 110, 121, 32, 110, 101, 116, 32, 58, 58, 47, 48, 32, 97, 110, 121, 32, 42], 0, 0), ([97, 108, 108, 111, 119, 32, 110, 97, 109, 101, 32, 42, 32, 97, 110, 121, 32, 42], 0, 0)]
def refOk (t : List UInt8 × Int × Nat) : Bool := match textV t.1 with
  | .inl x => t.2.1 != 0 && (x.1 == t.2.1 && x.2 == t.2.2)
  | .inr r => t.2.1 == 0 && r.rules.length == 1
theorem ref_all : ∀ t ∈ refT, refOk t = true := by decide +kernel
theorem ref_len : ∀ t ∈ refT, t.1.length ≤ 100 := by decide +kernel
theorem ref_ways {t : List UInt8 × Int × Nat} (h : t ∈ refT) : (t.2.1 ≠ 0 ∧ textV t.1 = .inl (t.2.1, t.2.2)) ∨ (t.2.1 = 0 ∧ ∃ r, textV t.1 = .inr r ∧ r.rules.length = 1) := by
  have h1 := ref_all t h
  unfold refOk at h1
  cases hv : textV t.1 with
  | inl x =>
    rw [hv] at h1
    simp only [Bool.and_eq_true, bne_iff_ne, beq_iff_eq] at h1
    obtain ⟨x1, x2⟩ := x
    obtain ⟨h2, h3, h4⟩ := h1
    exact .inl ⟨h2, by rw [← h3, ← h4]⟩
  | inr r =>
    rw [hv] at h1
    simp only [Bool.and_eq_true, beq_iff_eq] at h1
    exact .inr ⟨h1.1, r, rfl, h1.2⟩
end Go.Proofs.YtoagfmonfgagbaaGreatDoor
