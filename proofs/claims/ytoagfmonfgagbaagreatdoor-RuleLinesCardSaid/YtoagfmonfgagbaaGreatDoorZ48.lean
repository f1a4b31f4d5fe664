/-
  
-/
import Derived.Test.YtoagfmonfgagbaaGreatDoorZ46
import Derived.Test.YtoagfmonfgagbaaGreatDoorZ11
import Derived.Test.YtoagfmonfgagbaaGreatDoorZ19
import Derived.Test.YtoagfmonfgagbaaGreatDoorZ42
import Derived.Test.YtoagfmonfgagbaaGreatDoorZ34
import Derived.Test.YtoagfmonfgagbaaGreatDoorZ26
import Derived.Test.YtoagfmonfgagbaaGreatDoorZ24
import Derived.Test.YtoagfmonfgagbaaGreatDoorZ08
import Derived.Test.YtoagfmonfgagbaaGreatDoorZ40
import Derived.Test.YtoagfmonfgagbaaGreatDoorZ16
namespace Go.Proofs.YtoagfmonfgagbaaGreatDoor
open Go.RowKit Go.Shelf
set_option maxRecDepth 100000
attribute [local go_sem] Oper.semAt_some
section
variable {n : Nat} {ops : Array Oper} {rest : List Oper} {o : Oper} {a : Act} {w : World} {Q : Exit → Act → World → Prop}
theorem rows_wide {P : Program} {row : String} {args : Array Value} {R : Value → World → Prop} (h : Rows P row args w R) : RowsIn Fence.wide n P row args w R :=
  fun c cs _ => let ⟨v, w', r, s⟩ := h c cs; ⟨v, w', r, stepsIn_wide.2 s⟩
theorem wp_wide {P : Program} {K : Act → World → Prop} (h : o.wp P a w K Q) : o.wpIn Fence.wide n P a w K Q := by
  refine ⟨fun _ _ => trivial, ?_⟩
  unfold Oper.wp at h
  show o.uponIn Fence.wide n P a K Q ((execOp a.eval o).run P w)
  revert h
  generalize (execOp a.eval o).run P w = r
  intro h
  cases r with
  | ok x w' => cases x <;> first | exact h | exact ⟨fun e => (by cases e), callsIn_wide.2 h⟩ | exact ⟨fun e => (by cases e), rows_wide h⟩ | exact h.elim
  | halt s w' => cases s <;> first | exact h | exact h.elim
theorem wp_round {P : Program} {l : Nat} {K : Act → World → Prop} (hd : ∀ c, o.op ≠ .defer c) (h : o.wp P a w K Q) : o.wpIn (Fence.wide.inRound l) n P a w K Q := by
  refine ⟨fun _ _ => trivial, ?_⟩
  have h1 := (wp_wide (n := n) h).2
  rw [Oper.semAt_eq _ _ _ hd] at h1 ⊢
  revert h1
  generalize (execOp a.eval o).run P w = r
  intro h1
  cases r with
  | ok x w' => cases x <;> exact h1
  | halt s w' => cases s <;> exact h1
theorem wpListIn_w {P : Program} (hg : o.guard = none) (h : ∀ K : Act → World → Prop, (∀ a w, wpListIn Fence.wide n P ops Q rest a w → K a w) → o.wp P a w K Q) : wpListIn Fence.wide n P ops Q (o :: rest) a w :=
  wpListIn_plain hg fun K hK => wp_wide (h K hK)
theorem wpListIn_r {P : Program} {l : Nat} (hg : o.guard = none) (hd : ∀ c, o.op ≠ .defer c) (h : ∀ K : Act → World → Prop, (∀ a w, wpListIn (Fence.wide.inRound l) n P ops Q rest a w → K a w) → o.wp P a w K Q) : wpListIn (Fence.wide.inRound l) n P ops Q (o :: rest) a w :=
  wpListIn_plain hg fun K hK => wp_round hd (h K hK)
end
def linesW (ss : List Ad19) (us : List Rw) : List (List (List UInt8)) := ss.map (fun a => [kwResolver, textv a.1 a.2]) ++ us.map wordsW
def RdW (ws : List (List UInt8)) (v : Value) (W : World) : Prop := ∃ g, v = .slice (some ⟨g, 0, none⟩) ws.length ws.length ∧ 0 < ws.length ∧ Gs W (some ⟨g, 0, none⟩) ws.length ws.length (sv (mkSs ws)) ∧ ws.length ≤ 1000 ∧ ∀ u ∈ ws, u.length ≤ 1000000
theorem netv_43 (v6 : Bool) (a : List UInt8) (n : Int) : (textnetv v6 a n).length ≤ 43 := by
  unfold textnetv
  split
  · rename_i h
    unfold rightnetv at h
    simp only [Bool.and_eq_true, decide_eq_true_eq] at h
    have h1 := wid_le v6
    have h2 := textv_39 v6 a
    have h3 := dec_len 3 n.toNat (by omega) (by decide)
    rw [List.length_append, List.length_append]
    simp only [List.length_cons, List.length_nil]
    omega
  · simp
theorem s_small (a : Ad19) : ∀ u ∈ [kwResolver, textv a.1 a.2], u.length ≤ 1000000 := by
  have h1 := textv_39 a.1 a.2
  intro u hu
  rcases List.mem_cons.1 hu with rfl | hu
  · decide
  · rw [List.mem_singleton.1 hu]; omega
theorem r_small {x : Rw} (hx : x.fit) : ∀ u ∈ wordsW x, u.length ≤ 1000000 := by
  have h1 := netv_43 x.v6 x.adr x.bits
  have h2 := hx.name
  have h3 := itoa_len x.low (by have := hx.low; omega) (by have := hx.low; omega)
  have h4 := itoa_len x.high (by have := hx.high; omega) (by have := hx.high; omega)
  have p1 : (protoTx x.proto).length ≤ 4 := by
    unfold protoTx
    split
    · decide
    · split
      · decide
      · split
        · decide
        · split <;> decide
  have p2 : (portsTx x.low x.high).length ≤ 300 := by
    unfold portsTx
    split
    · decide
    · split
      · omega
      · rw [List.length_append, List.length_cons]; omega
  intro u hu
  unfold wordsW at hu
  simp only [List.mem_cons, List.not_mem_nil, or_false] at hu
  rcases hu with rfl | rfl | rfl | rfl | rfl
  · split <;> decide
  · split <;> decide
  · split
    · omega
    · split
      · simp only [List.length_cons]; omega
      · omega
  · omega
  · omega
theorem gs_lit2 (w : World) (a b : List UInt8) : Gs (w.alloc (.cells #[.string (mkS a), .string (mkS b)] 9)) (some ⟨w.heap.size, 0, none⟩) 2 2 (sv (mkSs [a, b])) :=
  Gs.lit w (sv (mkSs [a, b])) 2 rfl (by unfold maxLen; omega) #[.string (mkS a), .string (mkS b)] rfl 9
structure KpL (n0 q : Nat) (A B : World) : Prop where
  below : Below n0 A B
  box : B.heap[q]? = A.heap[q]?
theorem KpL.trans {n0 q : Nat} {A B C : World} (h : KpL n0 q A B) (k : KpL n0 q B C) : KpL n0 q A C := ⟨h.below.trans k.below, k.box.trans h.box⟩
theorem KpL.after {n0 q : Nat} {A B C : World} (h : KpL n0 q A B) (hn : n0 ≤ B.heap.size) (hq : q < B.heap.size) (k : Below B.heap.size B C) : KpL n0 q A C := ⟨h.below.trans (k.mono hn), (k.block q hq).trans h.box⟩
structure Stay (w0 : World) (q : Nat) (A1 A2 : Option Addr) (n1 c1 n2 c2 : Nat) (ss : List Ad19) (us : List Rw) : Prop where
  s : A9S w0 A1 n1 c1 ss
  u : RwS w0 A2 n2 c2 us
  env : Env19 w0
  q : w0.heap.size ≤ q
  fit : ∀ x ∈ us, x.fit
set_option maxHeartbeats 4000000 in
theorem lines1_in (N : Nat) (l q : Nat) {w0 W : World} {A1 A2 : Option Addr} {n1 c1 n2 c2 : Nat} {ss : List Ad19} {us : List Rw} (hS : Stay w0 q A1 A2 n1 c1 n2 c2 ss us) (hW : Below w0.heap.size w0 W) (hq : RsBox W q (.slice A1 n1 c1) (.slice A2 n2 c2))
    (J Jx : List (List (List UInt8)) → World → Prop) (hJ : ∀ s A B, J s A → Below A.heap.size A B → J s B)
    (hY : ∀ pre ws v W1, (∃ k, pre = (linesW ss us).take k ∧ (linesW ss us)[k]? = some ws) → J pre W1 → RdW ws v W1 → YieldAt Fence.wide (N - 1) Tryz.prog l #[v] W1 fun e W2 => (e = .returned (.bool true) ∧ J (pre ++ [ws]) W2 ∧ KpL w0.heap.size q W1 W2) ∨ (e = .returned (.bool false) ∧ Jx (pre ++ [ws]) W2))
    (h0 : J [] W) : CallsIn Fence.wide N Tryz.prog 45 #[.func (.yield l) #[] #[], .pointer (some ⟨q, 0, none⟩)] W fun e W2 => (∃ v, e = .returned v) ∧
      ((∃ xs, xs = linesW ss us ∧ J xs W2) ∨ (∃ xs, (∃ k, xs = (linesW ss us).take k) ∧ Jx xs W2)) := by
  have k1 : W.cell? ⟨q, 0, none⟩ = some (.slice A1 n1 c1) := cell_of_row W q 0 _ _ _ hq
  have k2 : W.cell? ⟨q, 1, none⟩ = some (.slice A2 n2 c2) := cell_of_row W q 1 _ _ _ hq
  have hql : q < W.heap.size := (Array.getElem?_eq_some_iff.1 hq).1
  have hcap1 := hS.s.cap
  have hmax1 := hS.s.max
  have hcap2 := hS.u.cap
  have hmax2 := hS.u.max
  unfold maxLen at hmax1 hmax2
  have HQ := Lib.hid (And.intro hW hql)
  have HJ := Lib.hid hJ
  have HY := Lib.hid hY
  have HS := Lib.hid hS
  have K2 := Lib.hid k2
  have hls : (linesW ss us).length = n1 + n2 := by unfold linesW; rw [List.length_append, List.length_map, List.length_map, hS.s.len, hS.u.len]
  have HL := Lib.hid hls
  clear hY hJ hS hW k2 hql hls
  refine callsIn_of_wp Tryz.func45 rfl trivial ?_ rfl
  simp only [Tryz.ntmps45, List.size_toArray, List.length_cons, List.length_nil, Nat.reduceAdd, Nat.reduceSub, Array.replicate_succ, Array.replicate_zero, List.push_toArray, List.append_toArray, List.nil_append, List.cons_append]
  gi_wp2
  clear k1
  gi_loopw [10] (fun i wr => ∃ k : Nat, k ≤ n1 ∧ i = .int .i64 k ∧ Hid (J ((linesW ss us).take k) wr ∧ KpL w0.heap.size q W wr)) (fun i _ => n1 - (intOf i).toNat)
  case atStart => exact ⟨0, Nat.zero_le _, rfl, h0, ⟨Below.refl _ _, rfl⟩⟩
  case round =>
    obtain ⟨k, hk, rfl, HX⟩ := hrel
    by_cases hkn : k < n1
    · obtain ⟨x, hxk⟩ : ∃ x, ss[k]? = some x := ⟨ss[k]'(by have := HS.out.s.len; omega), List.getElem?_eq_getElem _⟩
      obtain ⟨b, off, hA, hrx⟩ := (HS.out.s.later (HQ.out.1.trans HX.out.2.below) (Nat.le_refl _)).here k x hxk
      subst hA
      have hox := HS.out.s.ok x (List.mem_of_getElem? hxk)
      have hlt : q < wr.heap.size := Nat.lt_of_lt_of_le HQ.out.2 (by have := HX.out.2.below.size; exact this)
      have hn0 : w0.heap.size ≤ wr.heap.size := (HQ.out.1.trans HX.out.2.below).size
      have hlx : (linesW ss us)[k]? = some [kwResolver, textv x.1 x.2] := by
        unfold linesW
        rw [List.getElem?_append_left (by rw [List.length_map, HS.out.s.len]; exact hkn), List.getElem?_map, hxk]
        rfl
      have HE := Lib.hid (And.intro hrx (And.intro hox (And.intro hlx (And.intro hlt hn0))))
      clear hrx hox hlx hlt hn0 hxk
      gi_wp2_with (first
        | (refine wpListIn_w rfl fun _ hK => wp_load_a9 (.tmp 12) rfl rfl HE.out.2.1 HE.out.1 (hK _ _ ?_); clear hK)
        | (refine wpListIn_w rfl fun _ hK => wp_alloc_ad rfl fun w2 a2 b2 z2 => hK _ _ ?_; clear hK; have H2 := Lib.hid (And.intro a2 b2); clear a2 b2 z2)
        | (refine wpListIn_w rfl fun _ hK => wp_store_addrc (.tmp 4) (.tmp 13) rfl (a9v x) (by exact adv_size x.1 HE.out.2.1) (by exact adv_one x.1 x.2) (c0 := adv false (List.replicate 16 0)) zero_addr rfl rfl H2.out.1.1 fun w3 a3 o3 z3 b3 => hK _ _ ?_; clear hK; have H3 := Lib.hid (And.intro (show AdBox w3 _ x.1 x.2 from ⟨a3, HE.out.2.1⟩) (b3 _ _ (Nat.le_refl _) H2.out.2)); clear a3 o3 z3 b3)
        | (refine wpListIn_w rfl fun _ hK => wp_load_a9 (b := wr.heap.size) (f := 0) (.tmp 4) rfl rfl HE.out.2.1 H3.out.1.range (hK _ _ ?_); clear hK)
        | (refine ⟨trivial, fun e => (by cases e), ?_⟩; gi_at_call 46; refine (callsIn_wide.2 (Text_any x.1 x.2 HE.out.2.1 ((HS.out.env.later ((HQ.out.1.trans HX.out.2.below).trans (H3.out.2.mono HE.out.2.2.2.2)) (Nat.le_refl _)).env))).mono ?_; rintro e w5 ⟨rfl, b5⟩; have H5 := Lib.hid (H3.out.2.trans (b5.mono H3.out.2.size)); clear b5; obtain ⟨fn, tmps, assign, body, hy, hR⟩ := HY.out ((linesW ss us).take k) _ _ _ ⟨k, rfl, HE.out.2.2.1⟩ (HJ.out _ _ _ HX.out.1 (H5.out.alloc H5.out.size _)) (show RdW [kwResolver, textv x.1 x.2] (.slice (some ⟨w5.heap.size, 0, none⟩) 2 2) (w5.alloc (.cells #[.string ⟨#[114, 101, 115, 111, 108, 118, 101, 114]⟩, .string (mkS (textv x.1 x.2))] 9)) from ⟨w5.heap.size, rfl, Nat.zero_lt_two, gs_lit2 w5 kwResolver (textv x.1 x.2), by show 2 ≤ 1000; decide, s_small x⟩); have HR := Lib.hid hR; clear hR))
      refine ⟨fun e => (by cases e), ?_⟩
      refine HR.out.mono ?_
      have hB := (HX.out.2.after HE.out.2.2.2.2 HE.out.2.2.2.1 (H5.out.alloc H5.out.size (.cells #[.string ⟨#[114, 101, 115, 111, 108, 118, 101, 114]⟩, .string (mkS (textv x.1 x.2))] 9)))
      have hT := List.take_add_one (l := linesW ss us) (i := k)
      rw [HE.out.2.2.1] at hT
      rintro e W3 (⟨rfl, hJ3, hk3⟩ | ⟨rfl, hJx3⟩)
      · have HW := Lib.hid (And.intro hJ3 (And.intro (hB.trans hk3) hT))
        clear hJ3 hk3 hB hT hy
        gi_wp2
        exact ⟨⟨k + 1, hkn, by go_num, by rw [HW.out.2.2]; exact HW.out.1, HW.out.2.1⟩, by simp [intOf]; omega⟩
      · have HW := Lib.hid (And.intro hJx3 hT)
        clear hJx3 hB hT hy
        gi_wp2
        refine bodyPost_ret (results_none rfl _ _ _) rfl ?_
        exact ⟨⟨_, rfl⟩, .inr ⟨_, ⟨k + 1, rfl⟩, by rw [HW.out.2]; exact HW.out.1⟩⟩
    · obtain rfl : k = n1 := by omega
      have g2 : wr.cell? ⟨q, 1, none⟩ = some (.slice A2 n2 c2) := (World.cell?_of_block (w := W) (a := ⟨q, 1, none⟩) HX.out.2.box).trans K2.out
      gi_wp2
      clear g2
      gi_loopw [24] (fun i wr => ∃ j : Nat, j ≤ n2 ∧ i = .int .i64 j ∧ Hid (J ((linesW ss us).take (k + j)) wr ∧ KpL w0.heap.size q W wr)) (fun i _ => n2 - (intOf i).toNat)
      case atStart => exact ⟨0, Nat.zero_le _, rfl, HX.out⟩
      case round =>
        obtain ⟨j, hj, rfl, HX⟩ := hrel
        by_cases hjn : j < n2
        · obtain ⟨x, hxk⟩ : ∃ x, us[j]? = some x := ⟨us[j]'(by have := HS.out.u.len; omega), List.getElem?_eq_getElem _⟩
          obtain ⟨b, off, hA, hrx⟩ := (HS.out.u.later (HQ.out.1.trans HX.out.2.below) (Nat.le_refl _)).here j x hxk
          subst hA
          have hox := HS.out.fit x (List.mem_of_getElem? hxk)
          have hlt : q < wr.heap.size := Nat.lt_of_lt_of_le HQ.out.2 (by have := HX.out.2.below.size; exact this)
          have hn0 : w0.heap.size ≤ wr.heap.size := (HQ.out.1.trans HX.out.2.below).size
          have hlx : (linesW ss us)[k + j]? = some (wordsW x) := by
            unfold linesW
            rw [List.getElem?_append_right (by rw [List.length_map, HS.out.s.len]; omega), List.length_map, HS.out.s.len, Nat.add_sub_cancel_left, List.getElem?_map, hxk]
            rfl
          have HE := Lib.hid (And.intro hrx (And.intro hox (And.intro hlx (And.intro hlt hn0))))
          clear hrx hox hlx hlt hn0 hxk
          gi_wp2_with (first
            | (refine wpListIn_w rfl fun _ hK => wp_load_rw (.tmp 26) rfl rfl HE.out.2.1.ok HE.out.1 (hK _ _ ?_); clear hK)
            | (refine wpListIn_w rfl fun _ hK => wp_alloc_rw rfl fun w2 a2 b2 z2 => hK _ _ ?_; clear hK; have H2 := Lib.hid (And.intro a2 b2); clear a2 b2 z2)
            | (refine wpListIn_w rfl fun _ hK => wp_store_rw (.tmp 6) (.tmp 27) rfl x rfl rfl HE.out.2.1.ok H2.out.1 fun w3 a3 o3 z3 b3 => hK _ _ ?_; clear hK; have H3 := Lib.hid (And.intro a3 (b3 _ _ (Nat.le_refl _) H2.out.2)); clear a3 o3 z3 b3)
            | (refine wpListIn_w rfl fun _ hK => wp_load_rw (b := wr.heap.size) (f := 0) (.tmp 6) rfl rfl HE.out.2.1.ok H3.out.1.range (hK _ _ ?_); clear hK)
            | (refine ⟨trivial, fun e => (by cases e), ?_⟩; gi_at_call 47; refine (callsIn_wide.2 (wordsOf19 x HE.out.2.1 (HS.out.env.later ((HQ.out.1.trans HX.out.2.below).trans (H3.out.2.mono HE.out.2.2.2.2)) (Nat.le_refl _)))).mono ?_; rintro e w5 ⟨g, rfl, hg5, b5⟩; have H5 := Lib.hid (H3.out.2.trans (b5.mono H3.out.2.size)); clear b5; obtain ⟨fn, tmps, assign, body, hy, hR⟩ := HY.out ((linesW ss us).take (k + j)) _ _ _ ⟨k + j, rfl, HE.out.2.2.1⟩ (HJ.out _ _ _ HX.out.1 H5.out) (show RdW (wordsW x) (.slice (some ⟨g, 0, none⟩) 5 5) w5 from ⟨g, rfl, Nat.zero_lt_succ 4, hg5, by show 5 ≤ 1000; decide, r_small HE.out.2.1⟩); have HR := Lib.hid hR; clear hR hg5))
          refine ⟨fun e => (by cases e), ?_⟩
          refine HR.out.mono ?_
          have hB := (HX.out.2.after HE.out.2.2.2.2 HE.out.2.2.2.1 H5.out)
          have hT := List.take_add_one (l := linesW ss us) (i := k + j)
          rw [HE.out.2.2.1] at hT
          rintro e W3 (⟨rfl, hJ3, hk3⟩ | ⟨rfl, hJx3⟩)
          · have HW := Lib.hid (And.intro hJ3 (And.intro (hB.trans hk3) hT))
            clear hJ3 hk3 hB hT hy
            gi_wp2
            exact ⟨⟨j + 1, hjn, by go_num, by rw [← Nat.add_assoc, HW.out.2.2]; exact HW.out.1, HW.out.2.1⟩, by simp [intOf]; omega⟩
          · have HW := Lib.hid (And.intro hJx3 hT)
            clear hJx3 hB hT hy
            gi_wp2
            refine bodyPost_ret (results_none rfl _ _ _) rfl ?_
            exact ⟨⟨_, rfl⟩, .inr ⟨_, ⟨k + j + 1, rfl⟩, by rw [HW.out.2]; exact HW.out.1⟩⟩
        · obtain rfl : j = n2 := by omega
          have HF := Lib.hid HX.out.1
          gi_wp2
          go_end0
          refine ⟨⟨_, rfl⟩, .inl ⟨_, rfl, ?_⟩⟩
          have h1 := HF.out
          rw [List.take_of_length_le (Nat.le_of_eq HL.out)] at h1
          exact h1
theorem lines_in (N : Nat) (v1 v2 : Value) (w : World) : CallsIn Fence.wide N Tryz.prog 25 #[.agg (rsv v1 v2)] w fun e w' => e = .returned (.func (.func 45) #[] #[.pointer (some ⟨w.heap.size, 0, none⟩)]) ∧ w' = w.alloc (.cells (rsv v1 v2) 25) := by
  refine callsIn_of_wp Tryz.func25 rfl trivial ?_ rfl
  simp only [Tryz.ntmps25, List.size_toArray, List.length_cons, List.length_nil, Nat.reduceAdd, Nat.reduceSub, Array.replicate_succ, Array.replicate_zero, List.push_toArray, List.append_toArray, List.nil_append, List.cons_append]
  gi_wp2
  go_ret
  exact ⟨rfl, rfl⟩
theorem lines_hands (N q : Nat) {w0 w : World} {A1 A2 : Option Addr} {n1 c1 n2 c2 : Nat} {ss : List Ad19} {us : List Rw} (hS : Stay w0 q A1 A2 n1 c1 n2 c2 ss us) (hw : Below w0.heap.size w0 w) (hq : RsBox w q (.slice A1 n1 c1) (.slice A2 n2 c2)) :
    Hands Fence.wide N Tryz.prog 45 #[.pointer (some ⟨q, 0, none⟩)] RdW (KpL w0.heap.size q) (fun xs => xs = linesW ss us) (fun xs => ∃ k, xs = (linesW ss us).take k) w := fun l J Jx _ hW hJ _ hY h0 =>
  lines1_in N l q hS (hw.trans (hW.mono hw.size)) ((hW.block q (Array.getElem?_eq_some_iff.1 hq).1).trans hq) J Jx hJ (fun pre ws v W1 _ hj hr => hY pre ws v W1 hj hr) h0
theorem lines_handsP (N q : Nat) {w0 w : World} {A1 A2 : Option Addr} {n1 c1 n2 c2 : Nat} {ss : List Ad19} {us : List Rw} (hS : Stay w0 q A1 A2 n1 c1 n2 c2 ss us) (hw : Below w0.heap.size w0 w) (hq : RsBox w q (.slice A1 n1 c1) (.slice A2 n2 c2)) :
    HandsP Fence.wide N Tryz.prog 45 #[.pointer (some ⟨q, 0, none⟩)] (fun pre ws v W => RdW ws v W ∧ ∃ k, pre = (linesW ss us).take k ∧ (linesW ss us)[k]? = some ws) (KpL w0.heap.size q) (fun xs => xs = linesW ss us) (fun xs => ∃ k, xs = (linesW ss us).take k) w := fun l J Jx _ hW hJ _ hY h0 =>
  lines1_in N l q hS (hw.trans (hW.mono hw.size)) ((hW.block q (Array.getElem?_eq_some_iff.1 hq).1).trans hq) J Jx hJ (fun pre ws v W1 hp hj hr => hY pre ws v W1 hj ⟨hr, hp⟩) h0
end Go.Proofs.YtoagfmonfgagbaaGreatDoor

namespace Go.Proofs.YtoagfmonfgagbaaGreatDoor
open Go.RowKit Go.Shelf
set_option maxRecDepth 100000
attribute [local go_sem] Oper.semAt_some
def rightW (ss : List Ad19) (us : List Rw) : Bool := match foldT fx noneR (linesW ss us) with
  | none => false
  | some t => decide (t.servers = ss) && decide (t.rules.map rwR = us)
theorem own_cells {w : World} {base : Nat} {e : TypeId} {s : Nat} {v : Value} {n : Nat} {xs : List Value} (h : w.ownsRow base e s v n xs) {i : Nat} (hi : v.ownBlock = some i) : ∃ o : Obj, w.heap[i]? = some o ∧ o.isCells = true := by
  rcases h.2 with ⟨rfl, _⟩ | ⟨g, cap, cur, rfl, _, hg, _⟩
  · cases hi
  · cases hi
    exact ⟨_, hg, rfl⟩
theorem RB.cells {w : World} {base g : Nat} {v1 v2 : Value} {r : Rs19} (h : RB w base g v1 v2 r) {i : Nat} (hi : Sg g v1 v2 i) : ∃ o : Obj, w.heap[i]? = some o ∧ o.isCells = true := by
  rcases hi with rfl | hi | hi
  · exact ⟨_, h.box, rfl⟩
  · exact own_cells h.s.1 hi
  · exact own_cells h.u.1 hi
theorem keeps_fr {S : Nat → Prop} {W W2 : World} (B : Nat) (h : Fr S W W2) (hc : ∀ i, i < W.heap.size → S i → ∃ o : Obj, W.heap[i]? = some o ∧ o.isCells = true) : KeepsFrom B W W2 :=
  ⟨h.size, fun k o _ hk ho => (h.block k (Array.getElem?_eq_some_iff.1 hk).1 fun hs => by
    obtain ⟨o2, h2, hc2⟩ := hc k (Array.getElem?_eq_some_iff.1 hk).1 hs
    rw [hk] at h2
    cases h2
    rw [ho] at hc2
    cases hc2).trans hk⟩
def InvR (w1 : World) (g : Nat) (pre : List (List (List UInt8))) (W : World) : Prop := ∃ r v1 v2, foldT fx noneR pre = some r ∧ RightR fx r ∧ RB W g g v1 v2 r ∧ (∀ i, Sg g v1 v2 i → i ≠ g + 1) ∧ Below g w1 W ∧ W.heap[g + 1]? = w1.heap[g + 1]?
def OutR (w1 : World) (_ s : Nat) (pre : List (List (List UInt8))) (W : World) : Prop := foldT fx noneR pre = none ∧ Below s w1 W ∧ W.heap[s + 1]? = some (.cells #[.bool false] 4 (0, 0))
theorem inv_own {w1 : World} {g : Nat} {o1 : Obj} (hg : w1.heap[g + 1]? = some o1) (hc : o1.isCells = true) {B : Nat} (hgs : g ≤ w1.heap.size) (hB : g ≤ B) : OwnFrom B (InvR w1 g) := fun s X Y row hs hgr hr => by
  obtain ⟨r, v1, v2, h1, h2, h3, h4, h5, h6⟩ := hs
  have hr2 : ∀ j, row = some j → ∃ o : Obj, X.heap[j]? = some o ∧ o.isCells = false := fun j e => (hr j e).2
  refine ⟨r, v1, v2, h1, h2, h3.keep fun k _ hk => ?_, h4, ownFrom_below (β := Unit) hgs hB () X Y row h5 hgr hr, ?_⟩
  · obtain ⟨o, ho, hoc⟩ := h3.cells hk
    exact grownBy_keeps_cells hgr hr2 ho hoc
  · exact (grownBy_keeps_cells hgr hr2 (h6.trans hg) hc).trans h6
theorem out_own {w1 : World} {g s : Nat} {B : Nat} (hgs : s ≤ w1.heap.size) (hB : s ≤ B) : OwnFrom B (OutR w1 g s) := fun s X Y row hs hgr hr => by
  obtain ⟨h1, h2, h3⟩ := hs
  exact ⟨h1, ownFrom_below (β := Unit) hgs hB () X Y row h2 hgr hr, (grownBy_keeps_cells hgr (fun j e => (hr j e).2) h3 rfl).trans h3⟩
theorem wtks_text (ws : List (List UInt8)) : (wtks ws).map (·.text) = ws := by
  unfold wtks
  rw [List.map_map]
  exact List.map_id ws
theorem foldT_one {pre : List (List (List UInt8))} {ws : List (List UInt8)} {r : Rs19} (h : foldT fx noneR pre = some r) : foldT fx noneR (pre ++ [ws]) = lineT fx r ws := by
  rw [foldT_append, h, Option.bind_some]
  unfold foldT
  cases lineT fx r ws <;> rfl
theorem foldT_cut {ls : List (List (List UInt8))} {k : Nat} (h : foldT fx noneR (ls.take k) = none) : foldT fx (noneR : Rs19) ls = none := by
  rw [← List.take_append_drop k ls, foldT_append, h]
  rfl
theorem gs_of_rdw {ws : List (List UInt8)} {v : Value} {W : World} (h : RdW ws v W) (l : Nat) {o o2 : Obj} (hl : W.heap[l]? = some o) (ho : o.isCells = false) : RdW ws v (W.putObj l o2) := by
  obtain ⟨g, h1, h2, h3, h4⟩ := h
  refine ⟨g, h1, h2, ⟨h3.len, h3.cap, h3.max, h3.none_, fun hn => ?_⟩, h4⟩
  obtain ⟨b, off, hA, hx⟩ := h3.here hn
  exact ⟨b, off, hA, fun i x hi => cell_kept (hx i x hi) (grownBy_putObj' W l o2) (fun r e => by cases e; exact ⟨o, hl, ho⟩)⟩
theorem kpl_put {n0 q : Nat} {W : World} {l : Nat} {o o2 : Obj} (hn : n0 ≤ l) (hq : q < l) (_ : W.heap[l]? = some o) : KpL n0 q W (W.putObj l o2) :=
  ⟨⟨rfl, rfl, rfl, by simp, fun k hk => World.putObj_heap_other (by omega)⟩, World.putObj_heap_other (by omega)⟩
section
variable {o : Oper} {a : Act} {w : World} {Q : Exit → Act → World → Prop}
theorem wp_load_rs {K : Act → World → Prop} (x : Operand) (ho : o.op = .load 25 x) {g : Nat} {p q : Value} (hx : a.eval x = .pointer (some ⟨g, 0, none⟩)) (hA : RsBox w g p q)
    (h : K (a.put o.dst (.agg (rsv p q))) w) : o.wp Tryz.prog a w K Q :=
  wp_load_row 25 x ho g hx 25 (rsv p q) (0, 0) _ hA Tryz.underlying25 rfl (rs_size p q) h
end
theorem alloc3_0 {w : World} {s : Nat} (hs : w.heap.size = s) (c0 c1 c2 : Obj) : (((w.alloc c0).alloc c1).alloc c2).heap[s]? = some c0 := by
  subst hs
  exact (Below.heap_alloc _ _ _ (by simp; omega)).trans ((Below.heap_alloc _ _ _ (by simp)).trans (World.alloc_heap_new w c0))
theorem alloc3_1 {w : World} {s : Nat} (hs : w.heap.size = s) (c0 c1 c2 : Obj) : (((w.alloc c0).alloc c1).alloc c2).heap[s + 1]? = some c1 := by
  have h := World.alloc_heap_new (w.alloc c0) c1
  rw [World.size_alloc, hs] at h
  exact (Below.heap_alloc _ _ _ (by simp; omega)).trans h
theorem alloc3_2 {w : World} {s : Nat} (hs : w.heap.size = s) (c0 c1 c2 : Obj) : (((w.alloc c0).alloc c1).alloc c2).heap[s + 2]? = some c2 := by
  have h := World.alloc_heap_new ((w.alloc c0).alloc c1) c2
  rw [World.size_alloc, World.size_alloc, hs] at h
  exact h
theorem TkS.kept {w w2 : World} {A : Option Addr} {n c : Nat} {ts : List Tk} (h : TkS w A n c ts) (hk : ∀ b o, A = some ⟨b, o, none⟩ → w2.heap[b]? = w.heap[b]?) : TkS w2 A n c ts :=
  ⟨h.len, h.cap, h.max, h.none_, fun i q hq => by
    obtain ⟨b, off, hA, hr⟩ := h.here i q hq
    exact ⟨b, off, hA, fun j v hj => (World.cell?_of_block (w := w) (a := ⟨b, off + i * 4 + j, none⟩) (hk b off hA)).trans (hr j v hj)⟩⟩
theorem fr_set (W : World) (b : Nat) (v : Value) : Fr (fun i => i = b) W (W.setCell ⟨b, 0, none⟩ v) := ⟨rfl, rfl, rfl, by simp, fun k _ h => Below.heap_setCell _ _ _ _ h⟩
theorem pre_round {W w4 w5 : World} {s x g1 n : Nat} {ws : List (List UInt8)} {r : Rs19} {v1 v2 : Value} (i3 : RB W (s + 2) (s + 2) v1 v2 r) (i2 : RightR fx r) {w : World} (hE : Env19 w) (hws : w.heap.size = s) (hw : Below s w W) (htk : TkS w4 (some ⟨g1, 0, none⟩) n n (wtks ws)) (hlo : W.heap.size ≤ g1) (b4 : Below W.heap.size W w4) (hx : w4.heap.size = x) (hg1 : g1 < x)
    (hln : LnB w5 x (some ⟨g1, 0, none⟩) n n 0) (b5 : Below w4.heap.size w4 w5) (hsm : ∀ u ∈ ws, u.length ≤ 1000000) : Pre w5 (s + 2) (s + 2) x (some ⟨g1, 0, none⟩) n n 0 (wtks ws) v1 v2 r := by
  have hb := b4.trans (b5.mono b4.size)
  have hlt : ∀ i, Sg (s + 2) v1 v2 i → i < W.heap.size := fun i hi => i3.sg_lt hi
  have hxw : W.heap.size ≤ x := by rw [← hx]; exact b4.size
  refine ⟨hln, i3.later hb, fun hs => absurd (hlt _ hs) (by omega), by have := i3.lt; omega, fun w2 hf => ?_, fun w2 hf => ?_, fun t ht => ?_, ⟨Nat.le_trans i2.s20 (by omega), Nat.le_trans i2.r200 (by omega)⟩⟩
  · refine (htk.later b5 (Nat.le_refl _)).kept fun b o e => ?_
    cases e
    have h5 : g1 < w5.heap.size := by have := b5.size; omega
    refine hf.block g1 h5 fun hs => ?_
    rcases hs with rfl | hs
    · omega
    · have := hlt _ hs; omega
  · have hsz : s ≤ W.heap.size := by have := i3.lt; omega
    refine hE.later (B := s) (Fr.below (hw.trans (hb.mono hsz)) hf (fun i hi => ?_) (by have := b5.size; omega)) (Nat.le_of_eq hws)
    rcases hi with rfl | hi
    · omega
    · have := i3.sg_base hi; omega
  · unfold wtks at ht
    obtain ⟨u, hu, rfl⟩ := List.mem_map.1 ht
    exact hsm u hu
theorem results_bool {fn : Func} {p : Tmp} (h : fn.results = #[.cell p 4]) (tmps : Array Value) {w : World} {g : Nat} {b : Bool} (hp : tmps.getD p undef = .pointer (some ⟨g, 0, none⟩)) (hb : w.cell? ⟨g, 0, none⟩ = some (.bool b)) : (results fn tmps).run Tryz.prog w = .ok (.bool b) w := by
  have hp' : tmps[p]?.getD undef = .pointer (some ⟨g, 0, none⟩) := by simpa using hp
  simp [results, h, hp', asAddr]
  go_simp
  try simp
set_option maxHeartbeats 8000000 in
theorem right19_in {A1 A2 : Option Addr} {n1 c1 n2 c2 : Nat} {ss : List Ad19} {us : List Rw} {w : World} (h1 : A9S w A1 n1 c1 ss) (h2 : RwS w A2 n2 c2 us) (hE : Env19 w) (hf : ∀ x ∈ us, x.fit) :
    CallsIn Fence.wide 3 Tryz.prog 13 #[.agg (rsv (.slice A1 n1 c1) (.slice A2 n2 c2))] w fun e W2 => e = .returned (.bool (rightW ss us)) ∧ Below w.heap.size w W2 := by
  obtain ⟨s, hs⟩ : ∃ s, w.heap.size = s := ⟨_, rfl⟩
  obtain ⟨va, hva⟩ : ∃ va, Value.slice A1 n1 c1 = va := ⟨_, rfl⟩
  obtain ⟨vb, hvb⟩ : ∃ vb, Value.slice A2 n2 c2 = vb := ⟨_, rfl⟩
  have HS : Stay w (s + 3) A1 A2 n1 c1 n2 c2 ss us := ⟨h1, h2, hE, by omega, hf⟩
  have HSS := Lib.hid (And.intro HS (And.intro hva hvb))
  rw [hva, hvb]
  clear h1 h2 hE hf HS hva hvb
  have one1 : va.oneCell' = true := by rw [← HSS.out.2.1]; rfl
  have one2 : vb.oneCell' = true := by rw [← HSS.out.2.2]; rfl
  obtain ⟨W1, hW1⟩ : ∃ W1, (((w.alloc (.cells (rsv va vb) 25)).alloc (.cells #[.bool false] 4)).alloc (.cells #[.slice none 0 0, .slice none 0 0] 25)).alloc (.cells (rsv va vb) 25) = W1 := ⟨_, rfl⟩
  refine callsIn_of_wp_marks Tryz.func13 rfl trivial ?_ rfl
  simp only [Tryz.ntmps13, List.size_toArray, List.length_cons, List.length_nil, Nat.reduceAdd, Nat.reduceSub, Array.replicate_succ, Array.replicate_zero, List.push_toArray, List.append_toArray, List.nil_append, List.cons_append]
  gi_wp2_with (first
    | (refine ⟨trivial, ?_⟩; gi_at_call 25; refine (lines_in _ _ _ _).mono ?_; rintro e w' ⟨rfl, rfl⟩)
    | (refine wpListIn_w rfl fun _ hK => wp_load_rs (g := s) (p := va) (q := vb) (.tmp 1) rfl rfl (alloc3_0 hs _ _ _) (hK _ _ ?_); clear hK))
  have hz : W1.heap.size = s + 4 := by rw [← hW1]; simp [hs]
  have hb1 : Below s w W1 := by
    rw [← hW1]
    exact ((((Below.refl s w).alloc (by omega) _).alloc (by simp; omega) _).alloc (by simp; omega) _).alloc (by simp; omega) _
  have x0 : W1.heap[s]? = some (.cells (rsv va vb) 25 (0, 0)) := by rw [← hW1]; exact (Below.heap_alloc _ _ _ (by simp; omega)).trans (alloc3_0 hs _ _ _)
  have x1 : W1.heap[s + 1]? = some (.cells #[.bool false] 4 (0, 0)) := by rw [← hW1]; exact (Below.heap_alloc _ _ _ (by simp; omega)).trans (alloc3_1 hs _ _ _)
  have x2 : RsBox W1 (s + 2) (.slice none 0 0) (.slice none 0 0) := by
    show W1.heap[s + 2]? = _
    rw [← hW1]; exact (Below.heap_alloc _ _ _ (by simp; omega)).trans (alloc3_2 hs _ _ _)
  have x3 : RsBox W1 (s + 3) va vb := by
    show W1.heap[s + 3]? = _
    rw [← hW1]
    have h := World.alloc_heap_new (((w.alloc (.cells (rsv va vb) 25)).alloc (.cells #[.bool false] 4)).alloc (.cells #[.slice none 0 0, .slice none 0 0] 25)) (.cells (rsv va vb) 25)
    rw [World.size_alloc, World.size_alloc, World.size_alloc, hs] at h
    exact h
  clear hW1
  have HX := Lib.hid (And.intro x0 (And.intro x1 (And.intro hb1 hz)))
  have hands := lines_hands (N := 2) (s + 3) (w0 := w) (w := W1) HSS.out.1 (by rw [hs]; exact hb1) (by rw [HSS.out.2.1, HSS.out.2.2]; exact x3)
  rw [hs] at hands
  have h0 : InvR W1 (s + 2) [] W1 := ⟨noneR, .slice none 0 0, .slice none 0 0, rfl, right_none fx, ⟨x2, A9O.nil _ _, RwO.nil _ _, by simp [Value.ownBlock], by simp [Value.ownBlock], by simp [Value.ownBlock], Nat.le_refl _⟩, (fun i hi => by
    rcases hi with rfl | hi | hi
    · omega
    · cases hi
    · cases hi), Below.refl _ _, rfl⟩
  refine range_hands (F := Fence.wide) (n := 3) rfl (by decide) (f := 45) (lb := #[.pointer (some ⟨s + 3, 0, none⟩)]) rfl trivial (enters_of Tryz.func45 (by kernel_rfl) rfl)
    (Rd := RdW) (fun ws v W l o o2 _ hl ho h => gs_of_rdw h l hl ho) (Kp := KpL s (s + 3)) (fun A B C h k => h.trans k) (fun W l o o2 hl ho _ => kpl_put (by omega) (by omega) ho)
    hands (Below.refl _ _) (InvR W1 (s + 2)) (OutR W1 (s + 2) s) (inv_own x3 rfl (by omega) (by omega)) (out_own (by omega) (by omega)) h0
    (fun v => { tmps := #[.agg (rsv va vb), .pointer (some ⟨s, 0, none⟩), .pointer (some ⟨s + 1, 0, none⟩), .pointer (some ⟨s + 1 + 1, 0, none⟩), v, undef, undef, .agg (rsv va vb), .func (.func 45) #[] #[.pointer (some ⟨s + 1 + 1 + 1, 0, none⟩)], v, undef, undef, undef, undef, undef, undef, undef, undef, undef, undef, undef, undef, undef, undef, undef, undef, undef, undef], defers := [] }) ?assign ?body ?done ?stop
  case assign =>
    intro l v W K hK
    clear x0 x1 x2 x3 hands h0
    gi_wp2
    exact hK
  case body =>
    intro l pre ws v W hI hx
    clear x0 x1 x2 x3 hands h0 hb1
    obtain ⟨r, v1, v2, i1, i2, i3, i4, i5, i6⟩ := hI
    obtain ⟨gg, rfl, hpos, hgs, hle, hsm⟩ := hx
    obtain ⟨n, hn⟩ : ∃ n, ws.length = n := ⟨_, rfl⟩
    rw [hn] at hpos hgs hle ⊢
    have HI := Lib.hid (And.intro i1 (And.intro i2 (And.intro i3 (And.intro i4 (And.intro i5 i6)))))
    have HG := Lib.hid (And.intro hgs (And.intro hpos (And.intro hle hsm)))
    clear i1 i2 i3 i4 i5 i6 hgs hpos hle hsm hn
    gi_wp2_with (first
      | (refine ⟨trivial, ?_⟩; gi_at_call 29; refine (CallsIn.inRound l (callsIn_wide.2 (tokens19 HG.out.1 HG.out.2.1 HG.out.2.2.1))).mono ?_; rintro e w4 ⟨g1, rfl, htk, hlo, b4⟩; have H4 := Lib.hid (And.intro htk (And.intro hlo b4)); clear htk hlo b4)
      | (refine wpListIn_r rfl (fun c e => by cases e) fun _ hK => wp_alloc_ln rfl fun w5 a5 b5 z5 => hK _ _ ?_; clear hK; have H5 := Lib.hid (And.intro a5 b5); clear a5 b5 z5)
      | (refine wpListIn_r rfl (fun c e => by cases e) fun _ hK => wp_store_ln (.tmp 5) (.tmp 12) rfl _ _ _ 0 rfl rfl H5.out.1 fun w6 a6 o6 z6 b6 => hK _ _ ?_; clear hK; have H6 := Lib.hid (And.intro a6 (b6 _ _ (Nat.le_refl _) H5.out.2)); clear a6 o6 z6 b6))
    have hlo4 := H4.out.2.1
    have hg1 : g1 < w4.heap.size := by
      obtain ⟨t, ht⟩ : ∃ t, (wtks ws)[0]? = some t := ⟨_, List.getElem?_eq_getElem (by have := H4.out.1.len; have := HG.out.2.1; omega)⟩
      obtain ⟨b, off, e, hr⟩ := H4.out.1.here 0 t ht
      cases e
      exact lt_cell (hr 0 _ (by rw [List.getElem?_eq_getElem (by rw [Array.length_toList, tkv_size]; omega)]))
    have hsW : s + 4 ≤ W.heap.size := by have := HI.out.2.2.2.2.1.size; omega
    have hwW : Below s w W := HX.out.2.2.1.trans (HI.out.2.2.2.2.1.mono (by omega))
    have hp := pre_round HI.out.2.2.1 HI.out.2.1 HSS.out.1.env hs hwW H4.out.1 hlo4 H4.out.2.2 rfl hg1 H6.out.1 H6.out.2 HG.out.2.2.2
    have K := tell19 hp
    obtain ⟨L, hL⟩ : ∃ L, lineT fx r ws = L := ⟨_, rfl⟩
    rw [lineV_R, wtks_text, hL] at K
    have hb6 : Below W.heap.size W w6 := H4.out.2.2.trans (H6.out.2.mono H4.out.2.2.size)
    have hcl : ∀ i, Sg (s + 2) v1 v2 i → i < W.heap.size := fun i hi => HI.out.2.2.1.sg_lt hi
    have hbase : ∀ i, Sg (s + 2) v1 v2 i → s + 2 ≤ i := fun i hi => HI.out.2.2.1.sg_base hi
    have hq1 : W.heap[s + 1]? = some (.cells #[.bool false] 4 (0, 0)) := (HI.out.2.2.2.2.1.block (s + 1) (by omega)).trans HX.out.2.1
    have HB := Lib.hid (And.intro hsW (And.intro hwW (And.intro hb6 (And.intro hcl (And.intro hbase (And.intro hq1 hL))))))
    have H4' := Lib.hid H4.out.2.2.size
    clear hp hlo4 hg1 hsW hwW hb6 hcl hbase hq1 hL
    have HK := Lib.hid K
    clear K
    refine ⟨trivial, ?_⟩
    refine (CallsIn.inRound l (callsIn_wide.2 HK.out)).mono ?_
    clear HK
    rintro e w7 hT
    cases L with
    | none =>
      obtain ⟨⟨k, p⟩, hkp⟩ : ∃ q, lineE fx r 0 (wtks ws) = q := ⟨_, rfl⟩
      rw [hkp] at hT
      obtain ⟨hfr, er, rfl, gE, rfl, hgE⟩ := (show Told _ _ _ _ _ _ (.inl (k, p)) _ _ from hT)
      have hfr7 : Fr (fun i => i = s + 1 ∨ Sg (s + 2) v1 v2 i) W w7 := (Fr.of_below HB.out.2.2.1).trans hfr fun i hi h => by
        rcases h with rfl | h
        · have := H4'.out; omega
        · exact .inr h
      have hbx : Boxed w7 (s + 1) 4 (.bool false) := by
        have h1 : w6.heap[s + 1]? = _ := (HB.out.2.2.1.block (s + 1) (by have := HB.out.1; omega)).trans HB.out.2.2.2.2.2.1
        refine (hfr.block (s + 1) (Array.getElem?_eq_some_iff.1 h1).1 fun h => ?_).trans h1
        rcases h with h | h
        · have := H4'.out; have := HB.out.1; omega
        · have := HB.out.2.2.2.2.1 _ h; omega
      have HF := Lib.hid (And.intro hfr7 hbx)
      have f1 := hbx.cell
      have f2 := hbx.frozen
      clear hT hfr hfr7 hbx hgE hkp
      gi_wp2
      have hfz : Fr (fun i => i = s + 1 ∨ Sg (s + 2) v1 v2 i) W (w7.setCell ⟨s + 1, 0, none⟩ (.bool false)) := HF.out.1.trans (fr_set w7 (s + 1) _) fun i _ h => .inl h
      refine ⟨keeps_fr _ hfz fun i _ h => ?_, ?_, ?_, HF.out.2.set _⟩
      · rcases h with rfl | h
        · exact ⟨_, HB.out.2.2.2.2.2.1, rfl⟩
        · exact HI.out.2.2.1.cells h
      · rw [foldT_one HI.out.1]; exact HB.out.2.2.2.2.2.2
      · refine Fr.below (HI.out.2.2.2.2.1.mono (by omega)) hfz (fun i h => ?_) (by have := HB.out.1; omega)
        rcases h with rfl | h
        · omega
        · have := HB.out.2.2.2.2.1 _ h; omega
    | some r' =>
      obtain ⟨hfr, rfl, v1', v2', hrb, hn1, hn2⟩ := (show Told _ _ _ _ _ _ (.inr r') _ _ from hT)
      have hfr7 : Fr (fun i => Sg (s + 2) v1 v2 i) W w7 := (Fr.of_below HB.out.2.2.1).trans hfr fun i hi h => by
        rcases h with rfl | h
        · have := H4'.out; omega
        · exact h
      have HF := Lib.hid (And.intro hfr7 (And.intro hrb (And.intro hn1 hn2)))
      clear hT hfr hfr7 hrb hn1 hn2
      gi_wp2
      have hB7 : Below (s + 2) W1 w7 := Fr.below HI.out.2.2.2.2.1 HF.out.1 (fun i h => HB.out.2.2.2.2.1 _ h) (by have := HB.out.1; omega)
      have h7 : w7.heap[s + 3]? = W.heap[s + 3]? := HF.out.1.block (s + 3) (by have := HB.out.1; omega) fun h => HI.out.2.2.2.1 _ h rfl
      have hsz6 := HB.out.2.2.1.size
      refine ⟨keeps_fr _ HF.out.1 fun i _ h => HI.out.2.2.1.cells h, ⟨?_, h7⟩, r', v1', v2', ?_, line_right fx_ok HI.out.2.1 HB.out.2.2.2.2.2.2, HF.out.2.1, ?_, hB7, h7.trans HI.out.2.2.2.2.2⟩
      · exact Fr.below (Below.refl s W) HF.out.1 (fun i h => by have := HB.out.2.2.2.2.1 _ h; omega) (by have := HB.out.1; omega)
      · rw [foldT_one HI.out.1]; exact HB.out.2.2.2.2.2.2
      · intro i h
        rcases h with rfl | h | h
        · omega
        · rcases HF.out.2.2.1 i h with h | h
          · exact HI.out.2.2.2.1 i (.inr (.inl h))
          · have := HB.out.1; omega
        · rcases HF.out.2.2.2 i h with h | h
          · exact HI.out.2.2.2.1 i (.inr (.inr h))
          · have := HB.out.1; omega
  case done =>
    rintro D xs W hD rfl ⟨r, v1, v2, i1, i2, i3, i4, i5, i6⟩ hK
    clear x0 x1 x2 x3 hands h0
    have e0 : rightW ss us = (decide (r.servers = ss) && decide (r.rules.map rwR = us)) := by unfold rightW; rw [i1]
    obtain ⟨q1, hq1⟩ : ∃ q, decide (r.servers = ss) = q := ⟨_, rfl⟩
    obtain ⟨q2, hq2⟩ : ∃ q, decide (r.rules.map rwR = us) = q := ⟨_, rfl⟩
    rw [hq1, hq2] at e0
    obtain ⟨B1, d1, rfl, hS1, _⟩ := A9S.of_own i3.s
    obtain ⟨B2, d2, rfl, hS2, _⟩ := RwS.of_own i3.u
    rw [List.length_map] at hS2 i3
    have hw : Below s w W := hb1.trans (i5.mono (by omega))
    have g1 : W.cell? ⟨s + 2, 0, none⟩ = some (.slice B1 r.servers.length d1) := i3.cell0
    have g2 : W.cell? ⟨s + 2, 1, none⟩ = some (.slice B2 r.rules.length d2) := i3.cell1
    have b0 : W.heap[s]? = some (.cells (rsv va vb) 25 (0, 0)) := (i5.block s (by omega)).trans HX.out.1
    have bx : Boxed W (s + 1) 4 (.bool false) := (i5.block (s + 1) (by omega)).trans HX.out.2.1
    have g3 : W.cell? ⟨s, 0, none⟩ = some va := cell_of_row W s 0 _ _ _ b0
    have g4 : W.cell? ⟨s, 1, none⟩ = some vb := cell_of_row W s 1 _ _ _ b0
    have hT1 := HSS.out.1.s.later hw (Nat.le_of_eq hs)
    have hT2 := HSS.out.1.u.later hw (Nat.le_of_eq hs)
    rw [← HSS.out.2.1] at g3
    rw [← HSS.out.2.2] at g4
    have HD := Lib.hid (And.intro hS1 (And.intro hS2 (And.intro hT1 (And.intro hT2 (And.intro hq1 (And.intro hq2 (And.intro hw (And.intro bx (And.intro hK e0)))))))))
    have HC := Lib.hid (And.intro g1 (And.intro g2 (And.intro g3 g4)))
    clear i1 i2 i3 i4 i5 i6 e0 hS1 hS2 hT1 hT2 hq1 hq2 hw bx b0 hK hb1
    have HDD := Lib.hid hD
    clear hD
    gi_wp2
    refine ⟨trivial, ?_⟩
    refine (callsIn_wide.2 (equalA19 HD.out.1 HD.out.2.2.1)).mono ?_
    rintro e wA ⟨rfl, bA⟩
    rw [HD.out.2.2.2.2.1]
    have hltD : D < W.heap.size := (Array.getElem?_eq_some_iff.1 HD.out.2.2.2.2.2.2.2.2.1).1
    have bx1 : Boxed wA (s + 1) 4 (.bool false) := (bA.block (s + 1) HD.out.2.2.2.2.2.2.2.1.lt).trans HD.out.2.2.2.2.2.2.2.1
    have hKA := (bA.block D hltD).trans HD.out.2.2.2.2.2.2.2.2.1
    cases q1 with
    | false =>
      have f1 := bx1.cell
      have f2 := bx1.frozen
      have HF := Lib.hid (And.intro bA (And.intro bx1 hKA))
      clear bA bx1 hKA hltD
      gi_wp2
      refine ⟨trivial, ?_⟩
      gi_wp2
      have hne : D ≠ s + 1 := by have := HDD.out; omega
      have hK2 : (wA.setCell ⟨s + 1, 0, none⟩ (.bool false)).heap[D]? = some (.deferred (some [])) := (Below.heap_setCell _ _ _ _ hne).trans HF.out.2.2
      refine ⟨by simp, .inl ⟨_, _, rfl, run_takeDeferred hK2, ?_⟩⟩
      refine ⟨_, results_bool rfl _ rfl (cell_kept (HF.out.2.1.set (.bool false)).cell (grownBy_putObj' _ D (.deferred none)) (fun r e => by cases e; exact ⟨_, hK2, rfl⟩)), by rw [HD.out.2.2.2.2.2.2.2.2.2]; rfl, ?_⟩
      rw [hs]
      have hw1 := HD.out.2.2.2.2.2.2.1
      exact ((hw1.trans (HF.out.1.mono (by have := hw1.size; omega))).setCell (p := ⟨s + 1, 0, none⟩) (by show s ≤ s + 1; omega) _).trans (belowK_b (w := w) (Nat.le_of_eq hs.symm) _ D _ _ (by have := HDD.out; omega) hK2 rfl rfl)
    | true =>
      have e1 : wA.cell? ⟨s + 2, 1, none⟩ = some (.slice B2 r.rules.length d2) := (bA.cell (p := ⟨s + 2, 1, none⟩) (lt_cell HC.out.2.1)).trans HC.out.2.1
      have e2 : wA.cell? ⟨s, 1, none⟩ = some (.slice A2 n2 c2) := (bA.cell (p := ⟨s, 1, none⟩) (lt_cell HC.out.2.2.2)).trans HC.out.2.2.2
      have HF := Lib.hid (And.intro bA (And.intro bx1 hKA))
      clear bA bx1 hKA hltD
      gi_wp2
      refine ⟨trivial, ?_⟩
      refine (callsIn_wide.2 (equalR19 (HD.out.2.1.later HF.out.1 (Nat.le_refl _)) (HD.out.2.2.2.1.later HF.out.1 (Nat.le_refl _)))).mono ?_
      rintro e wB ⟨rfl, bB⟩
      rw [HD.out.2.2.2.2.2.1]
      have bx2 : Boxed wB (s + 1) 4 (.bool false) := (bB.block (s + 1) HF.out.2.1.lt).trans HF.out.2.1
      have hKB := (bB.block D (Array.getElem?_eq_some_iff.1 HF.out.2.2).1).trans HF.out.2.2
      have f1 := bx2.cell
      have f2 := bx2.frozen
      have HB := Lib.hid (And.intro bB (And.intro bx2 hKB))
      clear bB bx2 hKB e1 e2
      gi_wp2
      have hne : D ≠ s + 1 := by have := HDD.out; omega
      have hK2 : (wB.setCell ⟨s + 1, 0, none⟩ (.bool q2)).heap[D]? = some (.deferred (some [])) := (Below.heap_setCell _ _ _ _ hne).trans HB.out.2.2
      refine ⟨by simp, .inl ⟨_, _, rfl, run_takeDeferred hK2, ?_⟩⟩
      refine ⟨_, results_bool rfl _ rfl (cell_kept (HB.out.2.1.set (.bool q2)).cell (grownBy_putObj' _ D (.deferred none)) (fun r e => by cases e; exact ⟨_, hK2, rfl⟩)), by rw [HD.out.2.2.2.2.2.2.2.2.2, Bool.true_and], ?_⟩
      rw [hs]
      have hw1 := HD.out.2.2.2.2.2.2.1
      have hw2 : Below s w wA := hw1.trans (HF.out.1.mono (by have := hw1.size; omega))
      exact ((hw2.trans (HB.out.1.mono (by have := hw2.size; omega))).setCell (p := ⟨s + 1, 0, none⟩) (by show s ≤ s + 1; omega) _).trans (belowK_b (w := w) (Nat.le_of_eq hs.symm) _ D _ _ (by have := HDD.out; omega) hK2 rfl rfl)
  case stop =>
    rintro D xs W hD ⟨k, rfl⟩ ⟨o1, o2, o3⟩ hK
    clear x0 x1 x2 x3 hands h0
    have e0 : rightW ss us = false := by unfold rightW; rw [foldT_cut o1]
    have f1 := (show Boxed W (s + 1) 4 (.bool false) from o3).cell
    have HO := Lib.hid (And.intro o2 (And.intro e0 hb1))
    clear o1 o2 o3 e0 hb1
    gi_wp2
    refine ⟨by simp, .inl ⟨_, _, rfl, run_takeDeferred hK, ?_⟩⟩
    refine ⟨_, results_bool rfl _ rfl (cell_kept f1 (grownBy_putObj' _ D (.deferred none)) (fun r e => by cases e; exact ⟨_, hK, rfl⟩)), by rw [HO.out.2.1], ?_⟩
    rw [hs]
    exact (HO.out.2.2.trans HO.out.1).trans (belowK_b (w := w) (Nat.le_of_eq hs.symm) W D _ _ (by omega) hK rfl rfl)
theorem right19 {A1 A2 : Option Addr} {n1 c1 n2 c2 : Nat} {ss : List Ad19} {us : List Rw} {w : World} (h1 : A9S w A1 n1 c1 ss) (h2 : RwS w A2 n2 c2 us) (hE : Env19 w) (hf : ∀ x ∈ us, x.fit) :
    Calls Tryz.prog 13 #[.agg (rsv (.slice A1 n1 c1) (.slice A2 n2 c2))] w fun e W2 => e = .returned (.bool (rightW ss us)) ∧ Below w.heap.size w W2 :=
  callsIn_wide.1 (right19_in h1 h2 hE hf)
end Go.Proofs.YtoagfmonfgagbaaGreatDoor

namespace Go.Proofs.YtoagfmonfgagbaaGreatDoor
open Go.RowKit
set_option maxRecDepth 100000
theorem protoTx_ok {n : Int} (h : protoOk n = true) : protoTx n = protoT n := by
  unfold protoOk at h
  simp only [Bool.or_eq_true, beq_iff_eq] at h
  rcases h with ((rfl | rfl) | rfl) | rfl <;> rfl
theorem itoa_nat (n : Nat) : Lib.itoa (n : Int) = Lib.decDigits n := by
  unfold Lib.itoa
  rw [if_neg (by omega), Int.toNat_natCast]
theorem portsTx_ok (a b : Nat) : portsTx a b = portsT a b := by
  unfold portsTx portsT
  rw [itoa_nat, itoa_nat]
  by_cases h : a = 0 ∧ b = 65535
  · rw [if_pos h, if_pos ⟨by rw [h.1]; rfl, by rw [h.2]; rfl⟩]
  · rw [if_neg h, if_neg (fun e => h ⟨by omega, by omega⟩)]
    by_cases h2 : a = b
    · rw [if_pos h2, if_pos (by rw [h2])]
    · rw [if_neg h2, if_neg (fun e => h2 (by omega))]
theorem plain_parts {p : List UInt8 × Bool} (h : plainP fx p = true) : p.1 ≠ [] ∧ p.1.length ≤ 1000 := by
  have h1 := plainP_n h
  unfold plainN at h1
  simp only [Bool.and_eq_true, Bool.not_eq_true', List.isEmpty_eq_false_iff] at h1
  have h2 : rightN p.1 := of_decide_eq_true h1.1.1.1
  have h3 := ((right_iff p.1).1 h2).1
  exact ⟨h1.1.1.2, by omega⟩
theorem oneR_parts {x : Ru19} (h : oneR fx x = true) : protoOk x.proto = true ∧ x.low ≤ x.high ∧ x.high ≤ 65535 ∧ patOk fx x.pat = true := by
  unfold oneR at h
  simp only [Bool.and_eq_true, decide_eq_true_eq] at h
  exact ⟨h.1.1.1, h.1.1.2, h.1.2, h.2⟩
theorem wordsW_ok {x : Ru19} (h : oneR fx x = true) : wordsW (rwR x) = wordsR fx x := by
  obtain ⟨h1, h2, h3, h4⟩ := oneR_parts h
  obtain ⟨al, pat, pr, lo, hi⟩ := x
  cases pat with
  | inl p =>
    have hp := plain_parts (show plainP fx p = true from h4)
    show [_, if p.1 = [] then kwNet else kwName, if p.1 = [] then _ else if p.2 then 42 :: 46 :: p.1 else p.1, protoTx pr, portsTx (lo : Int) (hi : Int)] = [_, kwName, patternT p, protoT pr, portsT lo hi]
    rw [if_neg hp.1, if_neg hp.1, protoTx_ok h1, portsTx_ok]
    rfl
  | inr n =>
    show [_, kwNet, textnetv n.1 n.2.1 n.2.2, protoTx pr, portsTx (lo : Int) (hi : Int)] = [_, kwNet, textnetv n.1 n.2.1 n.2.2, protoT pr, portsT lo hi]
    rw [protoTx_ok h1, portsTx_ok]
    rfl
theorem fit_ok {x : Ru19} (h : oneR fx x = true) : (rwR x).fit := by
  obtain ⟨h1, h2, h3, h4⟩ := oneR_parts h
  obtain ⟨al, pat, pr, lo, hi⟩ := x
  dsimp only at h2 h3
  cases pat with
  | inl p =>
    have hp := plain_parts (show plainP fx p = true from h4)
    exact ⟨List.length_replicate .., by show p.1.length ≤ 100000; omega, ⟨by show (-1000000 : Int) ≤ (lo : Int); omega, by show (lo : Int) ≤ 1000000; omega⟩, ⟨by show (-1000000 : Int) ≤ (hi : Int); omega, by show (hi : Int) ≤ 1000000; omega⟩⟩
  | inr n =>
    have hn : (n.2.1.length == 16 && rightnetv n.1 n.2.1 n.2.2) = true := h4
    simp only [Bool.and_eq_true, beq_iff_eq] at hn
    exact ⟨hn.1, Nat.zero_le _, ⟨by show (-1000000 : Int) ≤ (lo : Int); omega, by show (lo : Int) ≤ 1000000; omega⟩, ⟨by show (-1000000 : Int) ≤ (hi : Int); omega, by show (hi : Int) ≤ 1000000; omega⟩⟩
theorem linesW_ok {r : Rs19} (h : RightR fx r) : linesW r.servers (r.rules.map rwR) = linesOf fx r := by
  unfold linesW linesOf
  congr 1
  rw [List.map_map]
  exact List.map_congr_left fun x hx => wordsW_ok (h.one x hx)
theorem rightW_ok {r : Rs19} (h : RightR fx r) : rightW r.servers (r.rules.map rwR) = true := by
  unfold rightW
  rw [linesW_ok h, fold_back fx_ok h]
  simp
theorem right_parsed {r : Rs19} (h : RightR fx r) {base : Nat} {v1 v2 : Value} {w w0 : World} (hE : Env19 w) (h1 : A9O w base v1 r.servers) (h2 : RwO w base v2 (r.rules.map rwR)) (_ : w0 = w) :
    Calls Tryz.prog 13 #[.agg (rsv v1 v2)] w fun e W2 => e = .returned (.bool true) ∧ Below w.heap.size w W2 := by
  obtain ⟨A1, c1, rfl, g1, _⟩ := A9S.of_own h1
  obtain ⟨A2, c2, rfl, g2, _⟩ := RwS.of_own h2
  have K := right19 g1 g2 hE (fun x hx => by
    obtain ⟨y, hy, rfl⟩ := List.mem_map.1 hx
    exact fit_ok (h.one y hy))
  rw [rightW_ok h] at K
  exact K
end Go.Proofs.YtoagfmonfgagbaaGreatDoor

namespace Go.Proofs.YtoagfmonfgagbaaGreatDoor
open Go.RowKit
set_option maxRecDepth 100000
theorem range_blk19 {w : World} {g : Nat} {cs : Array Value} {T : TypeId} (h : w.heap[g]? = some (.cells cs T (0, 0))) : w.rangeAt g 0 cs.toList := fun j v hj => by
  rw [Nat.zero_add]
  exact (cell_of_row w g j _ _ _ h).trans (by rw [← Array.getElem?_toList]; exact hj)
theorem take_not_next {α : Type} {xs : List α} {k : Nat} {x y : α} (h : x ∉ xs.take k) (hy : xs[k]? = some y) (hne : y ≠ x) : x ∉ xs.take (k + 1) := by
  rw [List.take_add_one, hy]
  intro hm
  rcases List.mem_append.1 hm with hm | hm
  · exact h hm
  · exact hne (List.mem_singleton.1 hm).symm
set_option maxHeartbeats 4000000 in
theorem inA19 {A : Option Addr} {n c : Nat} {xs : List Ad19} {x : Ad19} {w : World} (ha : A9S w A n c xs) (hx : A9ok x) : Calls Tryz.prog 38 #[.slice A n c, .agg (a9v x)] w fun e w' => e = .returned (.bool (decide (x ∈ xs))) ∧ Below w.heap.size w w' := by
  have hmx : Tryz.prog.follows .mixedOrders = true := by kernel_rfl
  have ha1 := ha.cap
  have ha2 := ha.max
  unfold maxLen at ha2
  have hla := ha.len
  obtain ⟨R, hR⟩ : ∃ R, decide (x ∈ xs) = R := ⟨_, rfl⟩
  rw [hR]
  obtain ⟨vx, hvx⟩ : ∃ vx, a9v x = vx := ⟨_, rfl⟩
  have hsx : (Tryz.prog.info? 51).map (·.size) = some vx.size := by rw [← hvx]; exact ad_size x.1 hx
  have bx : (w.alloc (.cells vx 51)).heap[w.heap.size]? = some (.cells vx 51 (0, 0)) := World.alloc_heap_new w _
  have b0 : Below w.heap.size w (w.alloc (.cells vx 51)) := (Below.refl _ _).alloc (Nat.le_refl _) _
  have HH := Lib.hid (And.intro ha (And.intro hx (And.intro hla (And.intro hR (And.intro hvx hsx)))))
  have H0 := Lib.hid (And.intro bx b0)
  rw [hvx]
  clear ha hx hla hR hvx hsx bx b0
  go_enter Tryz.func38, Tryz.ntmps38
  go_wp2_with fail
  go_loopw [5] (fun i wr => ∃ k : Nat, k ≤ n ∧ i = .int .i64 k ∧ Hid (x ∉ xs.take k ∧ wr.heap[w.heap.size]? = some (.cells vx 51 (0, 0)) ∧ Below w.heap.size w wr)) (fun i _ => n - (intOf i).toNat)
  case atStart => exact ⟨0, Nat.zero_le _, rfl, by simp, H0.out.1, H0.out.2⟩
  case round =>
    obtain ⟨k, hk, rfl, HT⟩ := hrel
    by_cases hkn : k < n
    · obtain ⟨y, hyk⟩ : ∃ y, xs[k]? = some y := ⟨xs[k]'(by have := HH.out.2.2.1; omega), List.getElem?_eq_getElem _⟩
      obtain ⟨b, off, hA, hry⟩ := (HH.out.1.later HT.out.2.2 (Nat.le_refl _)).here k y hyk
      subst hA
      have hoy := HH.out.1.ok y (List.mem_of_getElem? hyk)
      have he : ∀ w, (binOp .eql 51 (.agg (a9v y)) (.agg (a9v x))).run Tryz.prog w = .ok (.bool (decide (y = x))) w := fun w => by
        have h := neq_a9 hoy HH.out.2.1 w
        have h2 := eql_ad y.1 x.1 hoy HH.out.2.1 w
        have e : ((y.1 == x.1) && (y.2 == x.2)) = decide (y = x) := by
          obtain ⟨y1, y2⟩ := y
          obtain ⟨x1, x2⟩ := x
          rw [Bool.eq_iff_iff]
          simp
        rw [e] at h2
        exact h2
      obtain ⟨vy, hvy⟩ : ∃ vy, a9v y = vy := ⟨_, rfl⟩
      obtain ⟨q, hq⟩ : ∃ q, decide (y = x) = q := ⟨_, rfl⟩
      have hsy : (Tryz.prog.info? 51).map (·.size) = some vy.size := by rw [← hvy]; exact ad_size y.1 hoy
      rw [hvy, HH.out.2.2.2.2.1, hq] at he
      have HV := Lib.hid (And.intro hvy (And.intro hq (And.intro hsy (And.intro hry hyk))))
      have HE := Lib.hid he
      clear hvy hq hsy he hry hyk hoy
      go_wp2_with fail
      have hS : Below wr.heap.size wr wr.drew := (Below.refl _ _).drew
      have he := HE.out
      refine rg_begin (fun w' => Below wr.heap.size wr w') 6 (by kernel_rfl) rfl ?_
      refine rg_take 0 (v := ?rv1) rfl (by kernel_rfl) (by kernel_rfl) (by kernel_rfl) (fun _ _ _ h => h) (by rfl) hS (fun w2 hw2 => ?ry1) ?rr1
      case ry1 => ((try dsimp only at hw2); go_simp <;> with_reducible rfl)
      simp only [Act.put, List.setIfInBounds_toArray, List.set_cons_zero, List.set_cons_succ]
      refine rg_take 1 (v := ?rv2) rfl (by kernel_rfl) (by kernel_rfl) (by kernel_rfl) (fun _ _ _ h => h) (by rfl) hS (fun w2 hw2 => ?ry2) ?rr2
      case ry2 => ((try dsimp only at hw2); go_simp <;> with_reducible rfl)
      simp only [Act.put, List.setIfInBounds_toArray, List.set_cons_zero, List.set_cons_succ]
      refine rg_take 2 (v := ?rv3) rfl (by kernel_rfl) (by kernel_rfl) (by kernel_rfl) (fun _ _ _ h => h) (by rfl) hS (fun w2 hw2 => ?ry3) ?rr3
      case ry3 => ((try dsimp only at hw2); go_simp <;> with_reducible rfl)
      simp only [Act.put, List.setIfInBounds_toArray, List.set_cons_zero, List.set_cons_succ]
      refine rg_load 3 rfl (by kernel_rfl) (by kernel_rfl) (by kernel_rfl) b (off + k * 17) vy (fun _ _ _ h => h) (by rfl) 51 (.tmp 14) rfl rfl hS (fun w2 h2 => by rw [← HV.out.1]; exact range_kept HV.out.2.2.2.1 h2 (Nat.le_refl _)) Tryz.underlying51 rfl HV.out.2.2.1 ?_
      simp only [Act.put, List.setIfInBounds_toArray, List.set_cons_zero, List.set_cons_succ]
      refine rg_load 4 rfl (by kernel_rfl) (by kernel_rfl) (by kernel_rfl) w.heap.size 0 vx (fun _ _ _ h => h) (by rfl) 51 (.tmp 3) rfl rfl hS (fun w2 h2 => range_blk19 ((h2.block _ (lt_blk HT.out.2.1)).trans HT.out.2.1)) Tryz.underlying51 rfl HH.out.2.2.2.2.2 ?_
      simp only [Act.put, List.setIfInBounds_toArray, List.set_cons_zero, List.set_cons_succ]
      refine rg_take 5 (v := ?rv4) rfl (by kernel_rfl) (by kernel_rfl) (by kernel_rfl) (fun _ _ _ h => h) (by rfl) hS (fun w2 hw2 => ?ry4) ?rr4
      case ry4 => ((try dsimp only at hw2); go_simp <;> with_reducible rfl)
      simp only [Act.put, List.setIfInBounds_toArray, List.set_cons_zero, List.set_cons_succ]
      refine rg_done (by kernel_rfl) ?_
      have hB2 := Lib.hid (HT.out.2.2.trans (hS.mono HT.out.2.2.size))
      have hX2 := Lib.hid ((hS.block _ (lt_blk HT.out.2.1)).trans HT.out.2.1)
      clear hS he
      cases q with
      | true =>
        go_wp2_with fail
        go_ret
        refine ⟨?_, hB2.out⟩
        have h1 : y = x := of_decide_eq_true HV.out.2.1
        rw [← HH.out.2.2.2.1, decide_eq_true (p := x ∈ xs) (by rw [← h1]; exact List.mem_of_getElem? HV.out.2.2.2.2)]
        rfl
      | false =>
        go_wp2_with fail
        exact ⟨⟨k + 1, hkn, by go_num, take_not_next HT.out.1 HV.out.2.2.2.2 (of_decide_eq_false HV.out.2.1), hX2.out, hB2.out⟩, by simp [intOf]; omega⟩
    · obtain rfl : k = n := by omega
      go_wp2_with fail
      go_ret
      refine ⟨?_, HT.out.2.2⟩
      have h1 := HT.out.1
      rw [List.take_of_length_le (Nat.le_of_eq HH.out.2.2.1)] at h1
      rw [← HH.out.2.2.2.1, decide_eq_false h1]
      rfl
def plZ : List Int := [6, 17, 1, 256]
def plV : List Value := plZ.map fun z => .int .i64 z
theorem plV_at {k : Nat} {z : Int} (h : plZ[k]? = some z) : plV[k]? = some (.int .i64 z) := by unfold plV; rw [List.getElem?_map, h]; rfl
theorem pl_ok (z : Int) : protoOk z = decide (z ∈ plZ) := by
  unfold protoOk plZ
  rw [Bool.eq_iff_iff]
  simp [or_assoc]
set_option maxHeartbeats 4000000 in
theorem inI19 {g : Nat} (z : Int) {w : World} (h : Row w g 3 plV) : Calls Tryz.prog 63 #[.slice (some ⟨g, 0, none⟩) 4 4, .int .i64 z] w fun e w' => e = .returned (.bool (protoOk z)) ∧ Below w.heap.size w w' := by
  rw [pl_ok]
  obtain ⟨R, hR⟩ : ∃ R, decide (z ∈ plZ) = R := ⟨_, rfl⟩
  rw [hR]
  have HH := Lib.hid (And.intro h hR)
  clear h hR
  go_enter Tryz.func63, Tryz.ntmps63
  go_wp2_with fail
  go_loopw [5] (fun i wr => ∃ k : Nat, k ≤ 4 ∧ i = .int .i64 k ∧ Hid (z ∉ plZ.take k ∧ Below w.heap.size w wr)) (fun i _ => 4 - (intOf i).toNat)
  case atStart => exact ⟨0, Nat.zero_le _, rfl, by simp, Below.refl _ _⟩
  case round =>
    obtain ⟨k, hk, rfl, HT⟩ := hrel
    by_cases hkn : k < 4
    · obtain ⟨y, hyk⟩ : ∃ y, plZ[k]? = some y := ⟨plZ[k]'(by show k < 4; exact hkn), List.getElem?_eq_getElem _⟩
      have hc := (HH.out.1.later HT.out.2 (Nat.le_refl _)).cell (plV_at hyk)
      have HY := Lib.hid hyk
      clear hyk
      by_cases hz : y = z
      · have e : (y == z) = true := by rw [beq_iff_eq]; exact hz
        have HZ := Lib.hid hz
        clear hz
        go_wp2_with fail
        go_ret
        refine ⟨?_, HT.out.2⟩
        rw [← HH.out.2, decide_eq_true (p := z ∈ plZ) (by rw [← HZ.out]; exact List.mem_of_getElem? HY.out)]
        rfl
      · have e : (y == z) = false := by rw [beq_eq_false_iff_ne]; exact hz
        have HZ := Lib.hid hz
        clear hz
        go_wp2_with fail
        exact ⟨⟨k + 1, hkn, by go_num, take_not_next HT.out.1 HY.out HZ.out, HT.out.2⟩, by simp [intOf]; omega⟩
    · obtain rfl : k = 4 := by omega
      go_wp2_with fail
      go_ret
      refine ⟨?_, HT.out.2⟩
      rw [← HH.out.2, decide_eq_false (show z ∉ plZ from HT.out.1)]
      rfl
theorem protos19 (w : World) : Calls Tryz.prog 62 #[] w fun e w' => ∃ g1 g2, e = .returned (.tuple #[.slice (some ⟨g1, 0, none⟩) 4 4, .slice (some ⟨g2, 0, none⟩) 4 4]) ∧ Row w' g2 3 plV ∧ Below w.heap.size w w' := by
  go_enter Tryz.func62, Tryz.ntmps62
  go_wp2
  have r2 := Row.new' (w.alloc (.cells #[.string ⟨#[116, 99, 112]⟩, .string ⟨#[117, 100, 112]⟩, .string ⟨#[105, 99, 109, 112]⟩, .string ⟨#[97, 110, 121]⟩] 9)) 3 (cs := #[.int .i64 6, .int .i64 17, .int .i64 1, .int .i64 256]) (vs := plV) rfl
  rw [World.size_alloc] at r2
  exact bodyPost_ret (v := .tuple #[.slice (some ⟨w.heap.size, 0, none⟩) 4 4, .slice (some ⟨w.heap.size + 1, 0, none⟩) 4 4]) (by simp [results, Tryz.results62, go_sem]) rfl ⟨_, _, rfl, r2, ((Below.refl _ _).alloc (Nat.le_refl _) _).alloc (by simp) _⟩
theorem wild19 (l : List UInt8) (w : World) : Calls Tryz.prog 84 #[.string (mkS l)] w fun e w' => e = .returned (.bool (wildB l)) ∧ w = w' := by
  match l with
  | [] =>
    have h : (mkS []).size = 0 := rfl
    go_enter Tryz.func84, Tryz.ntmps84
    go_wp2
    go_ret
    exact ⟨rfl, rfl⟩
  | [a] =>
    have h : (mkS [a]).size = 1 := rfl
    go_enter Tryz.func84, Tryz.ntmps84
    go_wp2
    go_ret
    exact ⟨rfl, rfl⟩
  | a :: b :: r =>
    have h : (mkS (a :: b :: r)).size = r.length + 2 := by rw [mkS_size]; rfl
    have hx : (mkS (a :: b :: r)).extract 0 2 = mkS [a, b] := by
      apply bytes_injD
      rw [cut_piece, mkS_data, mkS_data]
      rfl
    have h2 : 2 ≤ (mkS (a :: b :: r)).size := by omega
    go_enter Tryz.func84, Tryz.ntmps84
    go_wp2
    go_ret
    refine ⟨?_, rfl⟩
    show Ending.returned (.bool ((mkS [a, b]).toList == [42, 46])) = _
    rw [Lib.toList_data, mkS_data]
    have e : ([a, b] == [42, 46]) = wildB (a :: b :: r) := by
      show (a == 42 && (b == 46 && ([] == ([] : List UInt8)))) = (a == 42 && b == 46)
      rw [show (([] : List UInt8) == []) = true from rfl, Bool.and_true]
    rw [e]
theorem wildS19 (s : ByteArray) (w : World) : Calls Tryz.prog 84 #[.string s] w fun e w' => e = .returned (.bool (wildB s.data.toList)) ∧ w = w' := by
  have h := wild19 s.data.toList w
  rw [mkS_back] at h
  exact h
set_option maxHeartbeats 4000000 in
theorem plain19 (s : ByteArray) (hs : s.size ≤ 10000) (w : World) : Calls Tryz.prog 65 #[.string s] w fun e w' => e = .returned (.bool (plainN fx s.data.toList)) ∧ Below w.heap.size w w' := by
  have HL := Lib.hid (Lib.size_eq s).symm
  have KR := ref_right s hs w
  obtain ⟨q1, hq1⟩ : ∃ q, decide (rightN s.data.toList) = q := ⟨_, rfl⟩
  rw [hq1] at KR
  have HR := Lib.hid KR
  have KW := fun w1 => wildS19 s w1
  obtain ⟨q2, hq2⟩ : ∃ q, wildB s.data.toList = q := ⟨_, rfl⟩
  rw [hq2] at KW
  have HW := Lib.hid KW
  have hpl : plainN fx s.data.toList = (q1 && !s.data.toList.isEmpty && !s.data.toList.contains 35 && !q2) := by rw [← hq1, ← hq2]; rfl
  obtain ⟨R, hR⟩ : ∃ R, plainN fx s.data.toList = R := ⟨_, rfl⟩
  rw [hR] at hpl ⊢
  have HP := Lib.hid hpl
  clear KR KW hq1 hq2 hpl hR
  go_enter Tryz.func65, Tryz.ntmps65
  go_wp2_with fail
  go_loopw [3] (fun i wr => ∃ k : Nat, k ≤ s.size ∧ i = .int .i64 k ∧ Hid (35 ∉ s.data.toList.take k) ∧ wr = w) (fun i _ => s.size - (intOf i).toNat)
  case atStart => exact ⟨0, Nat.zero_le _, rfl, by simp [Hid], rfl⟩
  case round =>
    obtain ⟨k, hk, rfl, HT, hw⟩ := hrel
    subst hw
    by_cases hlt : k < s.size
    · obtain ⟨x, hx, hsk⟩ := str_at (s := s) (i := k) hlt
      have HX := Lib.hid hx
      clear hx
      by_cases hz : x = 35
      · subst hz
        have hc : s.data.toList.contains 35 = true := by rw [List.contains_iff_mem]; exact List.mem_of_getElem? HX.out
        have HC := Lib.hid hc
        clear hc
        go_wp2_with fail
        go_ret
        refine ⟨?_, Below.refl _ _⟩
        rw [HP.out, HC.out]
        simp
      · have e1 : ((x.toNat : Int) == 35) = false := by
          rw [beq_eq_false_iff_ne]
          intro h
          exact hz (UInt8.toNat.inj (show x.toNat = 35 by omega))
        have HZ := Lib.hid hz
        clear hz
        go_wp2_with fail
        exact ⟨⟨k + 1, hlt, by go_num, Lib.hid (take_not_next HT.out HX.out HZ.out), by first | rfl | trivial⟩, by simp [intOf]; omega⟩
    · obtain rfl : k = s.size := by omega
      have hc : s.data.toList.contains 35 = false := by
        have h1 := HT.out
        rw [List.take_of_length_le (Nat.le_of_eq HL.out)] at h1
        rw [← Bool.not_eq_true, List.contains_iff_mem]
        exact h1
      have HC := Lib.hid hc
      clear hc
      by_cases h0 : s.data.toList = []
      · have hie : s.toList.isEmpty = true := by rw [Lib.toList_data, h0]; rfl
        have H0 := Lib.hid h0
        clear h0
        go_wp2_with fail
        go_ret
        refine ⟨?_, Below.refl _ _⟩
        rw [HP.out, H0.out]
        simp
      · have hie : s.toList.isEmpty = false := by
          rw [Lib.toList_data]
          cases h : s.data.toList with
          | nil => exact absurd h h0
          | cons a l => rfl
        have hie2 : s.data.toList.isEmpty = false := by rw [← Lib.toList_data]; exact hie
        have H0 := Lib.hid hie2
        clear h0 hie2
        go_wp2_with fail
        refine HR.out.mono ?_
        rintro e w1 ⟨rfl, b1⟩
        have H1 := Lib.hid b1
        clear b1
        cases q1 with
        | false =>
          go_wp2_with fail
          go_ret
          refine ⟨?_, H1.out⟩
          rw [HP.out]
          rfl
        | true =>
          go_wp2_with fail
          refine (HW.out _).mono ?_
          rintro e w2 ⟨rfl, rfl⟩
          go_wp2_with fail
          go_ret
          refine ⟨?_, H1.out⟩
          rw [HP.out, HC.out, H0.out]
          simp
end Go.Proofs.YtoagfmonfgagbaaGreatDoor

namespace Go.Proofs.YtoagfmonfgagbaaGreatDoor
open Go.RowKit
set_option maxRecDepth 100000
def OneD (x : Rw) : Prop := protoOk x.proto = true ∧ 0 ≤ x.low ∧ x.low ≤ x.high ∧ x.high ≤ 65535 ∧ ((x.name = [] ∧ x.wild = false ∧ rightnetv x.v6 x.adr x.bits = true) ∨ (x.name ≠ [] ∧ plainN fx x.name = true ∧ x.v6 = false ∧ x.adr = List.replicate 16 0 ∧ x.bits = 0))
theorem pxv_zero : pxv false (List.replicate 16 0) 0 = (#[.bool false, .int .u8 0, .int .u8 0, .int .u8 0, .int .u8 0, .int .u8 0, .int .u8 0, .int .u8 0, .int .u8 0, .int .u8 0, .int .u8 0, .int .u8 0, .int .u8 0, .int .u8 0, .int .u8 0, .int .u8 0, .int .u8 0, .int .i64 0] : Array Value) := by kernel_rfl
set_option maxHeartbeats 8000000 in
theorem one19 (x : Rw) (hx : x.ok) (hn : x.name.length ≤ 10000) (w : World) : Calls Tryz.prog 39 #[.agg (rwv x)] w fun e w' => (∃ q : Bool, e = .returned (.bool q) ∧ (q = true → OneD x)) ∧ Below w.heap.size w w' := by
  have hbox := RwBox.new w hx
  have hbw : Below w.heap.size w (w.alloc (.cells (rwv x) 55)) := (Below.refl _ w).alloc (Nat.le_refl _) _
  have hsz : (w.alloc (.cells (rwv x) 55)).heap.size = w.heap.size + 1 := by simp
  obtain ⟨W, hW⟩ : ∃ W, w.alloc (.cells (rwv x) 55) = W := ⟨_, rfl⟩
  rw [hW] at hbox hbw hsz
  obtain ⟨al, nm, wd, v6, ad, bt, pr, lo, hi⟩ := x
  have hok : ad.length = 16 := hx
  dsimp only at hn
  have CE := fun (w' : World) (hb : Below W.heap.size W w') => (hbox.later hb (Nat.le_refl _)).cells
  dsimp only at CE
  have KP := plain19 (mkS nm) (by rw [mkS_size]; exact hn)
  rw [mkS_data] at KP
  obtain ⟨qp, hqp⟩ : ∃ q, plainN fx nm = q := ⟨_, rfl⟩
  rw [hqp] at KP
  have KN := refRightNet_any v6 ad hok bt
  obtain ⟨qn, hqn⟩ : ∃ q, rightnetv v6 ad bt = q := ⟨_, rfl⟩
  rw [hqn] at KN
  have KI := fun (w' : World) (g : Nat) (h : Row w' g 3 plV) => inI19 pr h
  obtain ⟨qi, hqi⟩ : ∃ q, protoOk pr = q := ⟨_, rfl⟩
  rw [hqi] at KI
  have heq := eql_px v6 false hok (b := List.replicate 16 0) rfl bt 0
  rw [pxv_zero] at heq
  obtain ⟨qe, hqe⟩ : ∃ q, ((v6 == false) && (ad == List.replicate 16 0) && (bt == 0)) = q := ⟨_, rfl⟩
  rw [hqe] at heq
  have HE := Lib.hid heq
  have hone : OneD ⟨al, nm, wd, v6, ad, bt, pr, lo, hi⟩ ↔ (qi = true ∧ 0 ≤ lo ∧ lo ≤ hi ∧ hi ≤ 65535 ∧ ((nm = [] ∧ wd = false ∧ qn = true) ∨ (nm ≠ [] ∧ qp = true ∧ qe = true))) := by
    unfold OneD
    dsimp only
    rw [hqi, hqn, hqp, ← hqe]
    simp only [Bool.and_eq_true, beq_iff_eq, and_assoc]
  obtain ⟨vt, hvt⟩ : ∃ vt, rwv ⟨al, nm, wd, v6, ad, bt, pr, lo, hi⟩ = vt := ⟨_, rfl⟩
  rw [hvt] at hW ⊢
  have HW := Lib.hid hW
  have HB := Lib.hid (And.intro hbw (And.intro hbox.lt (And.intro hok hone)))
  have HC := Lib.hid CE
  have HKP := Lib.hid KP
  have HKN := Lib.hid KN
  have HKI := Lib.hid KI
  have hnm0 : nm = [] → (mkS nm).toList.isEmpty = true := fun h => by rw [h, Lib.toList_data, mkS_data]; rfl
  have hnm1 : nm ≠ [] → (mkS nm).toList.isEmpty = false := fun h => by
    rw [Lib.toList_data, mkS_data]
    cases nm with
    | nil => exact absurd rfl h
    | cons a l => rfl
  have HNM := Lib.hid (And.intro hnm0 hnm1)
  clear hbox hbw hsz hW hvt hok hone CE KP KN KI hqp hqn hqi hqe heq hx hn hnm0 hnm1
  go_enter Tryz.func39, Tryz.ntmps39
  go_wp2_with (rw [HW.out])
  refine (protos19 _).mono ?_
  rintro e w1 ⟨g1, g2, rfl, hrow, b1⟩
  have cp := (HC.out w1 b1).2.2.2.1
  have H1 := Lib.hid (And.intro hrow b1)
  clear hrow b1
  go_wp2_with fail
  clear cp
  refine (HKI.out _ _ H1.out.1).mono ?_
  rintro e w2 ⟨rfl, b2⟩
  have hb2 := H1.out.2.trans (b2.mono H1.out.2.size)
  have hb2w := HB.out.1.trans (hb2.mono HB.out.1.size)
  obtain ⟨-, c1, c2, -, c22, c23, cn⟩ := HC.out w2 hb2
  have H2 := Lib.hid (And.intro hb2w (And.intro cn hb2))
  clear b2 hb2 hb2w cn
  cases qi with
  | false =>
    go_wp2_with fail
    go_ret
    exact ⟨⟨false, rfl, fun h => by cases h⟩, H2.out.1⟩
  | true =>
    rcases (show lo < 0 ∨ (¬ lo < 0 ∧ hi < lo) ∨ (¬ lo < 0 ∧ ¬ hi < lo ∧ 65535 < hi) ∨ (¬ lo < 0 ∧ ¬ hi < lo ∧ ¬ 65535 < hi) by omega) with d1 | ⟨d1, d2⟩ | ⟨d1, d2, d3⟩ | ⟨d1, d2, d3⟩
    · go_wp2_with fail
      go_ret
      exact ⟨⟨false, rfl, fun h => by cases h⟩, H2.out.1⟩
    · go_wp2_with fail
      go_ret
      exact ⟨⟨false, rfl, fun h => by cases h⟩, H2.out.1⟩
    · go_wp2_with fail
      go_ret
      exact ⟨⟨false, rfl, fun h => by cases h⟩, H2.out.1⟩
    · have HD := Lib.hid (And.intro (show 0 ≤ lo by omega) (And.intro (show lo ≤ hi by omega) (show hi ≤ 65535 by omega)))
      by_cases hnm : nm = []
      · have he := HNM.out.1 hnm
        have HM := Lib.hid hnm
        clear hnm
        cases wd with
        | true =>
          go_wp2_with fail
          go_ret
          exact ⟨⟨false, rfl, fun h => by cases h⟩, H2.out.1⟩
        | false =>
          go_wp2_with (first
            | (refine wpList_wantd rfl (wp_load_px' (b := w.heap.size) (f := 3) (.tmp 38) rfl rfl HB.out.2.2.1 H2.out.2.1 ?_)))
          refine (HKN.out _).mono ?_
          rintro e w3 ⟨rfl, b3⟩
          have H3 := Lib.hid (H2.out.1.trans (b3.mono H2.out.1.size))
          clear b3
          go_wp2_with fail
          go_ret
          refine ⟨⟨qn, rfl, fun h => ?_⟩, H3.out⟩
          exact HB.out.2.2.2.2 ⟨trivial, HD.out.1, HD.out.2.1, HD.out.2.2, .inl ⟨HM.out, trivial, h⟩⟩
      · have he := HNM.out.2 hnm
        have HM := Lib.hid hnm
        clear hnm
        go_wp2_with fail
        refine (HKP.out _).mono ?_
        rintro e w3 ⟨rfl, b3⟩
        have hb3 := H2.out.2.2.trans (b3.mono H2.out.2.2.size)
        have cn3 := (HC.out w3 hb3).2.2.2.2.2.2
        have H3 := Lib.hid (And.intro (H2.out.1.trans (b3.mono H2.out.1.size)) cn3)
        clear b3 hb3 cn3 c1 c2 c22 c23
        cases qp with
        | false =>
          go_wp2_with fail
          go_ret
          exact ⟨⟨false, rfl, fun h => by cases h⟩, H3.out.1⟩
        | true =>
          have heq := HE.out
          go_wp2_with (first
            | (refine wpList_wantd rfl (wp_load_px' (b := w.heap.size) (f := 3) (.tmp 46) rfl rfl HB.out.2.2.1 H3.out.2 ?_)))
          go_ret
          refine ⟨⟨qe, rfl, fun h => ?_⟩, H3.out.1⟩
          exact HB.out.2.2.2.2 ⟨trivial, HD.out.1, HD.out.2.1, HD.out.2.2, .inr ⟨HM.out, trivial, h⟩⟩
end Go.Proofs.YtoagfmonfgagbaaGreatDoor

namespace Go.Proofs.YtoagfmonfgagbaaGreatDoor
open Go.RowKit
set_option maxRecDepth 100000
theorem ad_first19 (b off n c k : Nat) (w : World) (hk : k ≤ c) : (Instr.sliceAt 22 (.slice (some ⟨b, off, none⟩) n c) none (some (.int .i64 k)) none).run Tryz.prog w = .ok (.slice (some ⟨b, off, none⟩) k c) w := by
  have h1 : (k : Int) ≤ (c : Int) := by omega
  go_simp
theorem exec_firstA {f : Operand → Value} {o : Oper} (x y : Operand) (ho : o.op = .slice 22 x none (some y) none) {b off n c k : Nat} (hx : f x = .slice (some ⟨b, off, none⟩) n c) (hy : f y = .int .i64 k) (hk : k ≤ c) (w : World) : (execOp f o).run Tryz.prog w = .ok (.value (.slice (some ⟨b, off, none⟩) k c)) w := by
  have h := ad_first19 b off n c k w hk
  unfold execOp
  simp only [ho, Option.map, hx, hy, Sem.run_bind, Sem.run_pure, h, Result.andThen_ok]
theorem A9S.take {w : World} {A : Option Addr} {n c : Nat} {xs : List Ad19} (h : A9S w A n c xs) {k : Nat} (hk : k ≤ n) : A9S w A k c (xs.take k) :=
  ⟨by rw [List.length_take, h.len]; omega, Nat.le_trans hk h.cap, h.max, h.none_, fun r hr => h.ok r (List.mem_of_mem_take hr), fun i t hi => h.here i t (by
    rw [List.getElem?_take] at hi
    split at hi
    · exact hi
    · cases hi)⟩
def SrvD (l : List Ad19) : Prop := (∀ a ∈ l, rightv a.1 a.2 = true) ∧ l.Nodup
theorem SrvD.next {l : List Ad19} {k : Nat} {a : Ad19} (h : SrvD (l.take k)) (ha : l[k]? = some a) (hr : rightv a.1 a.2 = true) (hn : a ∉ l.take k) : SrvD (l.take (k + 1)) := by
  rw [List.take_add_one, ha]
  refine ⟨fun x hx => ?_, ?_⟩
  · rcases List.mem_append.1 hx with hx | hx
    · exact h.1 x hx
    · rw [List.mem_singleton.1 hx]; exact hr
  · rw [List.nodup_append]
    refine ⟨h.2, by simp, fun x hx y hy => ?_⟩
    rw [List.mem_singleton.1 hy]
    rintro rfl
    exact hn hx
def GoodD (ss : List Ad19) (us : List Rw) : Prop := us.length ≤ 200 ∧ ss.length ≤ 20 ∧ SrvD ss ∧ ∀ x ∈ us, OneD x
def LetsD (e : Ending) (P : Prop) : Prop := ∃ q : Bool, e = .returned (.bool q) ∧ (q = true → P)
theorem LetsD.no (P : Prop) : LetsD (.returned (.bool false)) P := ⟨false, rfl, fun h => by cases h⟩
theorem LetsD.yes {P : Prop} (h : P) : LetsD (.returned (.bool true)) P := ⟨true, rfl, fun _ => h⟩
set_option maxHeartbeats 8000000 in
theorem rightRules19 {A1 A2 : Option Addr} {n1 c1 n2 c2 : Nat} {ss : List Ad19} {us : List Rw} {w : World} (h1 : A9S w A1 n1 c1 ss) (h2 : RwS w A2 n2 c2 us) (hn : ∀ x ∈ us, x.name.length ≤ 10000) : Calls Tryz.prog 19 #[.agg (rsv (.slice A1 n1 c1) (.slice A2 n2 c2))] w fun e w' => LetsD e (GoodD ss us) ∧ Below w.heap.size w w' := by
  have hmx : Tryz.prog.follows .mixedOrders = true := by kernel_rfl
  have bx : RsBox (w.alloc (.cells (rsv (.slice A1 n1 c1) (.slice A2 n2 c2)) 25)) w.heap.size (.slice A1 n1 c1) (.slice A2 n2 c2) := World.alloc_heap_new w _
  have b0 : Below w.heap.size w (w.alloc (.cells (rsv (.slice A1 n1 c1) (.slice A2 n2 c2)) 25)) := (Below.refl _ _).alloc (Nat.le_refl _) _
  have ha1 := h1.cap
  have ha2 := h1.max
  have hu1 := h2.cap
  have hu2 := h2.max
  unfold maxLen at ha2 hu2
  have HH := Lib.hid (And.intro h1 (And.intro h2 hn))
  obtain ⟨W, hW⟩ : ∃ W, w.alloc (.cells (rsv (.slice A1 n1 c1) (.slice A2 n2 c2)) 25) = W := ⟨_, rfl⟩
  have hW' : w.alloc (.cells #[.slice A1 n1 c1, .slice A2 n2 c2] 25) = W := hW
  rw [hW] at bx b0
  have CB : ∀ w', Below W.heap.size W w' → w'.cell? ⟨w.heap.size, 0, none⟩ = some (.slice A1 n1 c1) ∧ w'.cell? ⟨w.heap.size, 1, none⟩ = some (.slice A2 n2 c2) := fun w' h => by
    have hb : RsBox w' w.heap.size (.slice A1 n1 c1) (.slice A2 n2 c2) := (h.block _ (lt_blk bx)).trans bx
    exact ⟨cell_of_row w' w.heap.size 0 _ _ _ hb, cell_of_row w' w.heap.size 1 _ _ _ hb⟩
  have HCB := Lib.hid CB
  have HW := Lib.hid hW'
  have H0 := Lib.hid b0
  have k0 := (CB W (Below.refl _ _)).1
  have k1 := (CB W (Below.refl _ _)).2
  clear h1 h2 hn bx b0 hW hW' CB
  show Calls Tryz.prog 19 #[.agg #[.slice A1 n1 c1, .slice A2 n2 c2]] w _
  go_enter Tryz.func19, Tryz.ntmps19
  rcases (show 200 < n2 ∨ (¬ 200 < n2 ∧ 20 < n1) ∨ (¬ 200 < n2 ∧ ¬ 20 < n1) by omega) with d1 | ⟨d1, d2⟩ | ⟨d1, d2⟩
  · go_wp2_with (rw [HW.out])
    go_ret
    exact ⟨LetsD.no _, H0.out⟩
  · go_wp2_with (rw [HW.out])
    go_ret
    exact ⟨LetsD.no _, H0.out⟩
  · go_wp2_with (rw [HW.out])
    clear k0 k1
    go_loopw [3] (fun i wr => ∃ k : Nat, k ≤ n1 ∧ i = .int .i64 k ∧ Hid (SrvD (ss.take k) ∧ Below W.heap.size W wr)) (fun i _ => n1 - (intOf i).toNat)
    case atStart => exact ⟨0, Nat.zero_le _, rfl, ⟨(fun a h => by cases h), List.nodup_nil⟩, Below.refl _ _⟩
    case round =>
      obtain ⟨k, hk, rfl, HX⟩ := hrel
      by_cases hkn : k < n1
      · obtain ⟨x, hxk⟩ : ∃ x, ss[k]? = some x := ⟨ss[k]'(by have := HH.out.1.len; omega), List.getElem?_eq_getElem _⟩
        have hbw := H0.out.trans (HX.out.2.mono H0.out.size)
        obtain ⟨b, off, hA, hrx⟩ := (HH.out.1.later hbw (Nat.le_refl _)).here k x hxk
        subst hA
        have hox := HH.out.1.ok x (List.mem_of_getElem? hxk)
        have k0 := (HCB.out wr HX.out.2).1
        have rk : ∀ w', Below wr.heap.size wr w' → w'.cell? ⟨w.heap.size, 0, none⟩ = some (.slice (some ⟨b, off, none⟩) n1 c1) := fun w' h => (HCB.out w' (HX.out.2.trans (h.mono HX.out.2.size))).1
        obtain ⟨vx, hvx⟩ : ∃ vx, a9v x = vx := ⟨_, rfl⟩
        have hsx : (Tryz.prog.info? 51).map (·.size) = some vx.size := by rw [← hvx]; exact ad_size x.1 hox
        have KR := fun w' => refRight_any x.1 x.2 hox w'
        have hvx' : adv x.1 x.2 = vx := hvx
        rw [hvx'] at KR
        obtain ⟨q1, hq1⟩ : ∃ q, rightv x.1 x.2 = q := ⟨_, rfl⟩
        rw [hq1] at KR
        have KI := fun (w' : World) (h : Below wr.heap.size wr w') => inA19 (((HH.out.1.later hbw (Nat.le_refl _)).later h (Nat.le_refl _)).take (Nat.le_of_lt hkn)) hox
        rw [hvx] at KI
        obtain ⟨q2, hq2⟩ : ∃ q, decide (x ∈ ss.take k) = q := ⟨_, rfl⟩
        rw [hq2] at KI
        rw [hvx] at hrx
        have HK := Lib.hid (And.intro KR KI)
        have HV := Lib.hid (And.intro hsx (And.intro hrx (And.intro hq1 (And.intro hq2 (And.intro hxk hbw)))))
        clear hvx hvx' hsx hrx KR KI hq1 hq2 hxk hbw hox
        go_wp2_with fail
        clear k0
        have hkc : k ≤ c1 := by omega
        have hS : Below wr.heap.size wr wr.drew := (Below.refl _ _).drew
        refine rg_begin (fun w' => Below wr.heap.size wr w') 19 (by kernel_rfl) rfl ?_
        refine rg_take 0 (v := ?rv1) rfl (by kernel_rfl) (by kernel_rfl) (by kernel_rfl) (fun _ _ _ h => h) (by rfl) hS (fun w2 hw2 => ?ry1) ?rr1
        case ry1 => ((try dsimp only at hw2); go_simp <;> with_reducible rfl)
        simp only [Act.put, List.setIfInBounds_toArray, List.set_cons_zero, List.set_cons_succ]
        refine rg_take 2 (v := ?rv2) rfl (by kernel_rfl) (by kernel_rfl) (by kernel_rfl) (fun _ _ _ h => h) (by rfl) hS (fun w2 hw2 => ?ry2) ?rr2
        case ry2 => ((try dsimp only at hw2); go_simp <;> with_reducible rfl)
        simp only [Act.put, List.setIfInBounds_toArray, List.set_cons_zero, List.set_cons_succ]
        refine rg_take 1 (v := ?rv3) rfl (by kernel_rfl) (by kernel_rfl) (by kernel_rfl) (fun _ _ _ h => h) (by rfl) hS (fun w2 hw2 => ?ry3) ?rr3
        case ry3 => ((try dsimp only at hw2); go_simp <;> with_reducible rfl)
        simp only [Act.put, List.setIfInBounds_toArray, List.set_cons_zero, List.set_cons_succ]
        refine rg_take 3 (v := ?rv4) rfl (by kernel_rfl) (by kernel_rfl) (by kernel_rfl) (fun _ _ _ h => h) (by rfl) hS (fun w2 hw2 => ?ry4) ?rr4
        case ry4 => ((try dsimp only at hw2); go_simp <;> with_reducible rfl)
        simp only [Act.put, List.setIfInBounds_toArray, List.set_cons_zero, List.set_cons_succ]
        refine rg_load 4 rfl (by kernel_rfl) (by kernel_rfl) (by kernel_rfl) b (off + k * 17) vx (fun _ _ _ h => h) (by rfl) 51 (.tmp 25) rfl rfl hS (fun w2 h2 => range_kept HV.out.2.1 h2 (Nat.le_refl _)) Tryz.underlying51 rfl HV.out.1 ?_
        simp only [Act.put, List.setIfInBounds_toArray, List.set_cons_zero, List.set_cons_succ]
        refine rg_step 5 rfl (by kernel_rfl) (by rfl) (fun K hK => ?_)
        go_simp
        refine (HK.out.1 _).mono ?_
        rintro e w4 ⟨rfl, b4⟩
        replace hS := hS.trans (b4.mono hS.size)
        clear b4
        refine hK.out _ _ hS ?_
        clear hK K
        try simp only [Act.put, List.setIfInBounds_toArray, List.set_cons_zero, List.set_cons_succ]
        cases q1 with
        | false =>
          refine rg_take 6 (v := ?rv5) rfl (by kernel_rfl) (by kernel_rfl) (by kernel_rfl) (fun _ _ _ h => h) (by rfl) hS (fun w2 hw2 => ?ry5) ?rr5
          case ry5 => ((try dsimp only at hw2); go_simp <;> with_reducible rfl)
          simp only [Act.put, List.setIfInBounds_toArray, List.set_cons_zero, List.set_cons_succ]
          refine rg_take 7 (v := ?rv6) rfl (by kernel_rfl) (by kernel_rfl) (by kernel_rfl) (fun _ _ _ h => h) (by rfl) hS (fun w2 hw2 => ?ry6) ?rr6
          case ry6 => ((try dsimp only at hw2); go_simp <;> with_reducible rfl)
          simp only [Act.put, List.setIfInBounds_toArray, List.set_cons_zero, List.set_cons_succ]
          refine rg_skip 8 rfl (by kernel_rfl) (by kernel_rfl) (by kernel_rfl) (fun _ _ _ h => h) (by rfl) hS ?_
          simp only [Act.put, List.setIfInBounds_toArray, List.set_cons_zero, List.set_cons_succ]
          refine rg_skip 9 rfl (by kernel_rfl) (by kernel_rfl) (by kernel_rfl) (fun _ _ _ h => h) (by rfl) hS ?_
          simp only [Act.put, List.setIfInBounds_toArray, List.set_cons_zero, List.set_cons_succ]
          refine rg_skip 10 rfl (by kernel_rfl) (by kernel_rfl) (by kernel_rfl) (fun _ _ _ h => h) (by rfl) hS ?_
          simp only [Act.put, List.setIfInBounds_toArray, List.set_cons_zero, List.set_cons_succ]
          refine rg_skip 11 rfl (by kernel_rfl) (by kernel_rfl) (by kernel_rfl) (fun _ _ _ h => h) (by rfl) hS ?_
          simp only [Act.put, List.setIfInBounds_toArray, List.set_cons_zero, List.set_cons_succ]
          refine rg_skip 12 rfl (by kernel_rfl) (by kernel_rfl) (by kernel_rfl) (fun _ _ _ h => h) (by rfl) hS ?_
          simp only [Act.put, List.setIfInBounds_toArray, List.set_cons_zero, List.set_cons_succ]
          refine rg_skip 13 rfl (by kernel_rfl) (by kernel_rfl) (by kernel_rfl) (fun _ _ _ h => h) (by rfl) hS ?_
          simp only [Act.put, List.setIfInBounds_toArray, List.set_cons_zero, List.set_cons_succ]
          refine rg_skip 14 rfl (by kernel_rfl) (by kernel_rfl) (by kernel_rfl) (fun _ _ _ h => h) (by rfl) hS ?_
          simp only [Act.put, List.setIfInBounds_toArray, List.set_cons_zero, List.set_cons_succ]
          refine rg_skip 15 rfl (by kernel_rfl) (by kernel_rfl) (by kernel_rfl) (fun _ _ _ h => h) (by rfl) hS ?_
          simp only [Act.put, List.setIfInBounds_toArray, List.set_cons_zero, List.set_cons_succ]
          refine rg_skip 16 rfl (by kernel_rfl) (by kernel_rfl) (by kernel_rfl) (fun _ _ _ h => h) (by rfl) hS ?_
          simp only [Act.put, List.setIfInBounds_toArray, List.set_cons_zero, List.set_cons_succ]
          refine rg_skip 17 rfl (by kernel_rfl) (by kernel_rfl) (by kernel_rfl) (fun _ _ _ h => h) (by rfl) hS ?_
          simp only [Act.put, List.setIfInBounds_toArray, List.set_cons_zero, List.set_cons_succ]
          refine rg_take 18 (v := ?rv7) rfl (by kernel_rfl) (by kernel_rfl) (by kernel_rfl) (fun _ _ _ h => h) (by rfl) hS (fun w2 hw2 => ?ry7) ?rr7
          case ry7 => ((try dsimp only at hw2); go_simp <;> with_reducible rfl)
          simp only [Act.put, List.setIfInBounds_toArray, List.set_cons_zero, List.set_cons_succ]
          refine rg_done (by kernel_rfl) ?_
          go_wp2_with fail
          go_ret
          exact ⟨LetsD.no _, HV.out.2.2.2.2.2.trans (hS.mono HV.out.2.2.2.2.2.size)⟩
        | true =>
          refine rg_take 6 (v := ?rv8) rfl (by kernel_rfl) (by kernel_rfl) (by kernel_rfl) (fun _ _ _ h => h) (by rfl) hS (fun w2 hw2 => ?ry8) ?rr8
          case ry8 => ((try dsimp only at hw2); go_simp <;> with_reducible rfl)
          simp only [Act.put, List.setIfInBounds_toArray, List.set_cons_zero, List.set_cons_succ]
          refine rg_take 7 (v := ?rv9) rfl (by kernel_rfl) (by kernel_rfl) (by kernel_rfl) (fun _ _ _ h => h) (by rfl) hS (fun w2 hw2 => ?ry9) ?rr9
          case ry9 => ((try dsimp only at hw2); go_simp <;> with_reducible rfl)
          simp only [Act.put, List.setIfInBounds_toArray, List.set_cons_zero, List.set_cons_succ]
          refine rg_take 8 (v := ?rv10) rfl (by kernel_rfl) (by kernel_rfl) (by kernel_rfl) (fun _ _ _ h => h) (by rfl) hS (fun w2 hw2 => ?ry10) ?rr10
          case ry10 => ((try dsimp only at hw2); go_simp <;> with_reducible rfl)
          simp only [Act.put, List.setIfInBounds_toArray, List.set_cons_zero, List.set_cons_succ]
          refine rg_take 10 (v := ?rv11) rfl (by kernel_rfl) (by kernel_rfl) (by kernel_rfl) (fun _ _ _ h => h) (by rfl) hS (fun w2 hw2 => ?ry11) ?rr11
          case ry11 => ((try dsimp only at hw2); go_simp <;> with_reducible rfl)
          simp only [Act.put, List.setIfInBounds_toArray, List.set_cons_zero, List.set_cons_succ]
          refine rg_take 12 (v := ?rv12) rfl (by kernel_rfl) (by kernel_rfl) (by kernel_rfl) (fun _ _ _ h => h) (by rfl) hS (fun w2 hw2 => ?ry12) ?rr12
          case ry12 => ((try dsimp only at hw2); go_simp <;> with_reducible rfl)
          simp only [Act.put, List.setIfInBounds_toArray, List.set_cons_zero, List.set_cons_succ]
          refine rg_take 14 (v := ?rv13) rfl (by kernel_rfl) (by kernel_rfl) (by kernel_rfl) (fun _ _ _ h => h) (by rfl) hS (fun w2 hw2 => ?ry13) ?rr13
          case ry13 => ((try dsimp only at hw2); go_simp <;> with_reducible rfl)
          simp only [Act.put, List.setIfInBounds_toArray, List.set_cons_zero, List.set_cons_succ]
          refine rg_take 9 (v := ?rv14) rfl (by kernel_rfl) (by kernel_rfl) (by kernel_rfl) (fun _ _ _ h => h) (by rfl) hS (fun w2 hw2 => ?ry14) ?rr14
          case ry14 => ((try dsimp only at hw2); go_simp <;> with_reducible rfl)
          simp only [Act.put, List.setIfInBounds_toArray, List.set_cons_zero, List.set_cons_succ]
          refine rg_take 13 (v := ?rv15) rfl (by kernel_rfl) (by kernel_rfl) (by kernel_rfl) (fun _ _ _ h => h) (by rfl) hS (fun w2 hw2 => ?ry15) ?rr15
          case ry15 => ((try dsimp only at hw2); go_simp <;> with_reducible rfl)
          simp only [Act.put, List.setIfInBounds_toArray, List.set_cons_zero, List.set_cons_succ]
          refine rg_take 11 (v := .slice (some ⟨b, off, none⟩) k c1) rfl (by kernel_rfl) (by kernel_rfl) (by kernel_rfl) (fun _ _ _ h => h) (by rfl) hS (fun w2 _ => exec_firstA (.tmp 31) (.tmp 32) rfl rfl rfl hkc w2) ?_
          simp only [Act.put, List.setIfInBounds_toArray, List.set_cons_zero, List.set_cons_succ]
          refine rg_take 15 (v := ?rv16) rfl (by kernel_rfl) (by kernel_rfl) (by kernel_rfl) (fun _ _ _ h => h) (by rfl) hS (fun w2 hw2 => ?ry16) ?rr16
          case ry16 => ((try dsimp only at hw2); go_simp <;> with_reducible rfl)
          simp only [Act.put, List.setIfInBounds_toArray, List.set_cons_zero, List.set_cons_succ]
          refine rg_load 16 rfl (by kernel_rfl) (by kernel_rfl) (by kernel_rfl) b (off + k * 17) vx (fun _ _ _ h => h) (by rfl) 51 (.tmp 37) rfl rfl hS (fun w2 h2 => range_kept HV.out.2.1 h2 (Nat.le_refl _)) Tryz.underlying51 rfl HV.out.1 ?_
          simp only [Act.put, List.setIfInBounds_toArray, List.set_cons_zero, List.set_cons_succ]
          refine rg_step 17 rfl (by kernel_rfl) (by rfl) (fun K hK => ?_)
          go_simp
          refine (HK.out.2 _ hS).mono ?_
          rintro e w5 ⟨rfl, b5⟩
          replace hS := hS.trans (b5.mono hS.size)
          clear b5
          refine hK.out _ _ hS ?_
          clear hK K
          try simp only [Act.put, List.setIfInBounds_toArray, List.set_cons_zero, List.set_cons_succ]
          refine rg_take 18 (v := ?rv17) rfl (by kernel_rfl) (by kernel_rfl) (by kernel_rfl) (fun _ _ _ h => h) (by rfl) hS (fun w2 hw2 => ?ry17) ?rr17
          case ry17 => ((try dsimp only at hw2); go_simp <;> with_reducible rfl)
          simp only [Act.put, List.setIfInBounds_toArray, List.set_cons_zero, List.set_cons_succ]
          refine rg_done (by kernel_rfl) ?_
          have HS := Lib.hid hS
          clear hS rk
          cases q2 with
          | true =>
            go_wp2_with fail
            go_ret
            exact ⟨LetsD.no _, HV.out.2.2.2.2.2.trans (HS.out.mono HV.out.2.2.2.2.2.size)⟩
          | false =>
            go_wp2_with fail
            exact ⟨⟨k + 1, hkn, by go_num, HX.out.1.next HV.out.2.2.2.2.1 HV.out.2.2.1 (of_decide_eq_false HV.out.2.2.2.1), HX.out.2.trans (HS.out.mono HX.out.2.size)⟩, by simp [intOf]; omega⟩
      · obtain rfl : k = n1 := by omega
        have k0 := (HCB.out wr HX.out.2).1
        have hsd := HX.out.1
        rw [List.take_of_length_le (Nat.le_of_eq HH.out.1.len)] at hsd
        have HSD := Lib.hid (And.intro hsd HX.out.2)
        clear hsd HX
        go_wp2_with fail
        clear k0
        go_loopw [4] (fun i wr => ∃ j : Nat, j ≤ n2 ∧ i = .int .i64 j ∧ Hid ((∀ x ∈ us.take j, OneD x) ∧ Below W.heap.size W wr)) (fun i _ => n2 - (intOf i).toNat)
        case atStart => exact ⟨0, Nat.zero_le _, rfl, (fun a h => by cases h), HSD.out.2⟩
        case round =>
          obtain ⟨j, hj, rfl, HX⟩ := hrel
          have k1 := (HCB.out wr HX.out.2).2
          have hbw := H0.out.trans (HX.out.2.mono H0.out.size)
          by_cases hjn : j < n2
          · obtain ⟨x, hxk⟩ : ∃ x, us[j]? = some x := ⟨us[j]'(by have := HH.out.2.1.len; omega), List.getElem?_eq_getElem _⟩
            obtain ⟨b, off, hA, hrx⟩ := (HH.out.2.1.later hbw (Nat.le_refl _)).here j x hxk
            subst hA
            have hox := HH.out.2.1.ok x (List.mem_of_getElem? hxk)
            have K := one19 x hox (HH.out.2.2 x (List.mem_of_getElem? hxk)) wr
            have HK := Lib.hid K
            have HV := Lib.hid (And.intro hrx (And.intro hox (And.intro hxk hbw)))
            clear hrx hox hxk hbw K
            go_wp2_with (first
              | (refine wpList_load_rw rfl (.tmp 51) rfl rfl HV.out.2.1 HV.out.1 ?_))
            refine HK.out.mono ?_
            rintro e w4 ⟨⟨q, rfl, hq⟩, b4⟩
            have H4 := Lib.hid (And.intro hq b4)
            clear hq b4 k1
            cases q with
            | false =>
              go_wp2_with fail
              go_ret
              exact ⟨LetsD.no _, HV.out.2.2.2.trans (H4.out.2.mono HV.out.2.2.2.size)⟩
            | true =>
              go_wp2_with fail
              refine ⟨⟨j + 1, hjn, by go_num, fun y hy => ?_, HX.out.2.trans (H4.out.2.mono HX.out.2.size)⟩, by simp [intOf]; omega⟩
              rw [List.take_add_one, HV.out.2.2.1] at hy
              rcases List.mem_append.1 hy with hy | hy
              · exact HX.out.1 y hy
              · rw [List.mem_singleton.1 hy]; exact H4.out.1 trivial
          · obtain rfl : j = n2 := by omega
            have HB := Lib.hid hbw
            clear hbw
            go_wp2_with fail
            go_ret
            refine ⟨LetsD.yes ⟨by have := HH.out.2.1.len; omega, by have := HH.out.1.len; omega, HSD.out.1, ?_⟩, HB.out⟩
            have h1 := HX.out.1
            rw [List.take_of_length_le (Nat.le_of_eq HH.out.2.1.len)] at h1
            exact h1
end Go.Proofs.YtoagfmonfgagbaaGreatDoor

namespace Go.Proofs.YtoagfmonfgagbaaGreatDoor
open Go.RowKit
set_option maxRecDepth 100000
theorem sizeT_mem : ∀ {ts : List Tk} {t : Tk}, t ∈ ts → t.text.length ≤ sizeT ts
  | u :: ts, t, h => by
    rw [sizeT_cons]
    rcases List.mem_cons.1 h with rfl | h
    · omega
    · have := sizeT_mem h; omega
def textV (b : List UInt8) : Sum (Int × Nat) Rs19 := match lexM .gap 0 1 b with
  | .inl p => .inl (21, p)
  | .inr ts => parseV fx ts
theorem textV_right {b : List UInt8} {r : Rs19} (h : textV b = .inr r) : RightR fx r := by
  unfold textV at h
  cases hl : lexM .gap 0 1 b with
  | inl p => rw [hl] at h; cases h
  | inr ts => rw [hl] at h; exact parse_may fx_ok h
set_option maxHeartbeats 4000000 in
theorem parsed19 (s : ByteArray) (hs : s.size ≤ 20000) {w : World} (hE : Env19 w) : Calls Tryz.prog 11 #[.string s] w fun e w' => ∃ v, e = .returned v ∧ ParseQ w.heap.size (textV s.data.toList) w' v ∧ Below w.heap.size w w' := by
  unfold textV
  cases hl : lexM .gap 0 1 s.data.toList with
  | inl p =>
    have K := Lib.hid (fun w1 => tokens18 s hs w1)
    have HL := Lib.hid hl
    clear hE hl
    go_enter Tryz.func11, Tryz.ntmps11
    go_wp2_with (first
      | (refine wpList_alloc_rs rfl rfl ?_; intro w1 a1 b1 z1; have H1 := Lib.hid (And.intro a1 (And.intro b1 z1)); clear a1 b1 z1))
    refine (K.out _).mono ?_
    rintro e w2 ⟨v, rfl, hv, b2⟩
    rw [HL.out] at hv
    obtain ⟨er, rfl, g, rfl, hg⟩ := hv
    have hq := (b2.block _ (lt_blk H1.out.1)).trans H1.out.1
    have H2 := Lib.hid (And.intro hg (And.intro hq (H1.out.2.1.trans (b2.mono H1.out.2.1.size))))
    have hlt : w.heap.size < w1.heap.size := lt_blk H1.out.1
    clear hg hq
    go_wp2_with (first
      | (refine wpList_store_rs rfl (.tmp 2) (.tmp 13) rfl (.slice none 0 0) (.slice none 0 0) rfl rfl rfl rfl H2.out.2.1 ?_; intro w3 a3 o3 z3 b3; have H3 := Lib.hid (And.intro a3 (And.intro o3 (b3 w.heap.size w (Nat.le_refl _) H2.out.2.2))); clear a3 o3 z3 b3))
    refine bodyPost_ret (results_rs_tmp rfl _ rfl H3.out.1) rfl ⟨_, rfl, ⟨_, rfl, g, rfl, (H3.out.2.1 g ?_).trans H2.out.1⟩, H3.out.2.2⟩
    rintro rfl
    have h1 := H2.out.1.symm.trans H2.out.2.1
    cases h1
  | inr ts =>
    have hsz : ∀ t ∈ ts, t.text.length ≤ 1000000 := fun t ht => by
      have h1 := sizeT_mem ht
      have h2 := lexM_size _ _ _ _ _ hl
      have h3 : (Md.gap).size = 0 := rfl
      rw [← Lib.size_eq] at h2
      omega
    have K := Lib.hid (fun w1 => tokens18 s hs w1)
    have HL := Lib.hid (And.intro hl (And.intro hE hsz))
    dsimp only
    obtain ⟨R, hR⟩ : ∃ R, parseV fx ts = R := ⟨_, rfl⟩
    rw [hR]
    have HR := Lib.hid hR
    clear hE hl hsz hR
    go_enter Tryz.func11, Tryz.ntmps11
    go_wp2_with (first
      | (refine wpList_alloc_rs rfl rfl ?_; intro w1 a1 b1 z1; have H1 := Lib.hid (And.intro a1 (And.intro b1 z1)); clear a1 b1 z1))
    refine (K.out _).mono ?_
    rintro e w2 ⟨v, rfl, hv, b2⟩
    rw [HL.out.1] at hv
    obtain ⟨v, rfl, ho⟩ := hv
    obtain ⟨A, c, rfl, hk⟩ := TkS.of_own ho
    have hq := (b2.block _ (lt_blk H1.out.1)).trans H1.out.1
    have hb := H1.out.2.1.trans (b2.mono H1.out.2.1.size)
    have P := parse19 hk (HL.out.2.1.later hb (Nat.le_refl _)) HL.out.2.2
    rw [HR.out] at P
    have H2 := Lib.hid (And.intro hq hb)
    have HP := Lib.hid P
    clear ho hk hq hb P
    go_wp2_with fail
    refine HP.out.mono ?_
    rintro e w3 ⟨v, rfl, hv, b3⟩
    have hq3 := (b3.block _ (lt_blk H2.out.1)).trans H2.out.1
    have hb3 := H2.out.2.trans (b3.mono H2.out.2.size)
    have hsz2 : w.heap.size < w2.heap.size := lt_blk H2.out.1
    cases R with
    | inl x =>
      obtain ⟨k, p⟩ := x
      obtain ⟨er, rfl, g, rfl, hg⟩ := (show ∃ er, v = .tuple #[.agg (rsv (.slice none 0 0) (.slice none 0 0)), er] ∧ ErrN w3 er k p from hv)
      have H3 := Lib.hid (And.intro hg (And.intro hq3 hb3))
      clear hg hq3 hb3
      go_wp2_with (first
        | (refine wpList_store_rs rfl (.tmp 2) (.tmp 17) rfl (.slice none 0 0) (.slice none 0 0) rfl rfl rfl rfl H3.out.2.1 ?_; intro w4 a4 o4 z4 b4; have H4 := Lib.hid (And.intro a4 (And.intro o4 (b4 w.heap.size w (Nat.le_refl _) H3.out.2.2))); clear a4 o4 z4 b4))
      refine bodyPost_ret (results_rs_tmp rfl _ rfl H4.out.1) rfl ⟨_, rfl, ⟨_, rfl, g, rfl, (H4.out.2.1 g ?_).trans H3.out.1⟩, H4.out.2.2⟩
      rintro rfl
      have h1 := H3.out.1.symm.trans H3.out.2.1
      cases h1
    | inr r =>
      obtain ⟨v1, v2, rfl, hA, hB⟩ := (show ∃ v1 v2, v = .tuple #[.agg (rsv v1 v2), .nilIface] ∧ A9O w3 w2.heap.size v1 r.servers ∧ RwO w3 w2.heap.size v2 (r.rules.map rwR) from hv)
      have H3 := Lib.hid (And.intro hA (And.intro hB (And.intro hq3 hb3)))
      clear hA hB hq3 hb3
      go_wp2_with (first
        | (refine wpList_store_rs rfl (.tmp 2) (.tmp 17) rfl v1 v2 H3.out.1.one H3.out.2.1.one rfl rfl H3.out.2.2.1 ?_; intro w4 a4 o4 z4 b4; have H4 := Lib.hid (And.intro a4 (And.intro o4 (b4 w.heap.size w (Nat.le_refl _) H3.out.2.2.2))); clear a4 o4 z4 b4))
      refine bodyPost_ret (results_rs_tmp rfl _ rfl H4.out.1) rfl ⟨_, rfl, ⟨v1, v2, rfl, (H3.out.1.kept fun b hb => H4.out.2.1 b ?_).base (Nat.le_of_lt hsz2), (H3.out.2.1.kept fun b hb => H4.out.2.1 b ?_).base (Nat.le_of_lt hsz2)⟩, H4.out.2.2⟩
      · have := (H3.out.1.lt hb).1; omega
      · have := (H3.out.2.1.lt hb).1; omega
end Go.Proofs.YtoagfmonfgagbaaGreatDoor

namespace Go.Proofs.YtoagfmonfgagbaaGreatDoor
open Go.RowKit
set_option maxRecDepth 100000
def awB : List UInt8 := [97, 108, 108, 111, 119, 32, 110, 97, 109, 101, 32, 42, 46, 97, 46, 98, 32, 116, 99, 112, 32, 52, 52, 51]
def awX : Rs19 := ⟨[], [⟨true, .inl ([97, 46, 98], true), 6, 443, 443⟩]⟩
theorem aw_text : textV awB = .inr awX := by
  kernel_rfl
theorem rs_range {w : World} {g : Nat} {v1 v2 : Value} (h : RsBox w g v1 v2) : w.rangeAt g 0 (rsv v1 v2).toList := fun j v hj => by
  rw [Nat.zero_add]
  exact (cell_of_row w g j _ _ _ h).trans (by rw [← Array.getElem?_toList]; exact hj)
theorem aw_facts {w : World} {base : Nat} {v : Value} (h : RwO w base v (awX.rules.map rwR)) : ∃ b off c, v = .slice (some ⟨b, off, none⟩) 1 c ∧ 1 ≤ c ∧ c ≤ 2 ^ 63 - 1 ∧ w.cell? ⟨b, off + 1, none⟩ = some (.string ⟨#[97, 46, 98]⟩) ∧ w.cell? ⟨b, off + 2, none⟩ = some (.bool true) ∧ w.cell? ⟨b, off + 22, none⟩ = some (.int .i64 443) := by
  obtain ⟨A, c, hv, hs, _⟩ := RwS.of_own h
  obtain ⟨b, off, rfl, hr⟩ := hs.here 0 (rwR ⟨true, .inl ([97, 46, 98], true), 6, 443, 443⟩) rfl
  obtain ⟨f0, f1, f2, f3, f4, f5, f6⟩ := rw_at (r := rwR ⟨true, .inl ([97, 46, 98], true), 6, 443, 443⟩) (show List.length _ = 16 from rfl) hr
  have hm := hs.max
  unfold maxLen at hm
  exact ⟨b, off, c, hv, hs.cap, hm, f1, f2, f4⟩
set_option maxHeartbeats 8000000 in
theorem awake19 {w : World} (hE : Env19 w) : Calls Tryz.prog 9 #[] w fun e w' => e = .returned (.bool true) ∧ Below w.heap.size w w' := by
  have K := parsed19 ⟨#[97, 108, 108, 111, 119, 32, 110, 97, 109, 101, 32, 42, 46, 97, 46, 98, 32, 116, 99, 112, 32, 52, 52, 51]⟩ (by decide) hE
  rw [show textV (ByteArray.mk #[97, 108, 108, 111, 119, 32, 110, 97, 109, 101, 32, 42, 46, 97, 46, 98, 32, 116, 99, 112, 32, 52, 52, 51]).data.toList = .inr awX from aw_text] at K
  have K := Lib.hid K
  have HE := Lib.hid hE
  clear hE
  go_enter Tryz.func9, Tryz.ntmps9
  go_wp2_with fail
  refine K.out.mono ?_
  rintro e w1 ⟨v, rfl, hv, b1⟩
  obtain ⟨v1, v2, rfl, hA, hB⟩ := (show ∃ v1 v2, v = .tuple #[.agg (rsv v1 v2), .nilIface] ∧ A9O w1 w.heap.size v1 awX.servers ∧ RwO w1 w.heap.size v2 (awX.rules.map rwR) from hv)
  have H1 := Lib.hid (And.intro hA (And.intro hB b1))
  clear hv hA hB b1 K
  go_wp2_with (first
    | (refine wpList_alloc_rs rfl rfl ?_; intro w2 a2 b2 z2; have H2 := Lib.hid (And.intro a2 b2); clear a2 b2 z2)
    | (refine wpList_store_rs rfl (.tmp 1) (.tmp 5) rfl v1 v2 H1.out.1.one H1.out.2.1.one rfl rfl H2.out.1 ?_; intro w3 a3 o3 z3 b3; have H3 := Lib.hid (And.intro a3 (b3 w1.heap.size w1 (Nat.le_refl _) H2.out.2)); clear a3 o3 z3 b3; have h1 := H1.out.1.later H3.out.2; have h2 := H1.out.2.1.later H3.out.2; have hE3 := HE.out.later (H1.out.2.2.trans (H3.out.2.mono H1.out.2.2.size)) (Nat.le_refl _); have KR := right_parsed (r := awX) (textV_right aw_text) hE3 h1 h2 rfl; obtain ⟨b, off, c2, hvv, hc2, hm2, e1, e2, e4⟩ := aw_facts h2; have q1 : w3.cell? ⟨w1.heap.size, 1, none⟩ = some (.slice (some ⟨b, off, none⟩) 1 c2) := by rw [← hvv]; exact cell_of_row w3 w1.heap.size 1 _ _ _ H3.out.1
       have HR := Lib.hid KR
       have HV := Lib.hid hvv
       clear KR h1 h2 hE3 hvv)
    | (refine wpList_load_row_w (by rfl) 25 (.tmp 1) rfl w1.heap.size 0 rfl (rsv v1 v2) _ (rs_range H3.out.1) Tryz.underlying25 rfl (rs_size v1 v2) ?_))
  refine HR.out.mono ?_
  rintro e w4 ⟨rfl, b4⟩
  have H4 := Lib.hid b4
  clear b4
  go_wp2_with fail
  go_ret
  exact ⟨rfl, (H1.out.2.2.trans (H3.out.2.mono H1.out.2.2.size)).trans (H4.out.mono (H1.out.2.2.trans (H3.out.2.mono H1.out.2.2.size)).size)⟩
end Go.Proofs.YtoagfmonfgagbaaGreatDoor

namespace Go.Proofs.YtoagfmonfgagbaaGreatDoor
open Go.RowKit
set_option maxRecDepth 100000
theorem num_mod19 (a : Int) (m : Int) (h0 : 0 < m) (h1 : m ≤ 1000000) : 0 ≤ wrap64 ((IntKind.u64.wrap a).tmod m) ∧ wrap64 ((IntKind.u64.wrap a).tmod m) < m := by
  have h : IntKind.u64.wrap a = a % 18446744073709551616 := rfl
  have h2 : 0 ≤ IntKind.u64.wrap a := by rw [h]; omega
  rw [Int.tmod_eq_emod_of_nonneg h2]
  have h3 := Int.emod_nonneg (IntKind.u64.wrap a) (show m ≠ 0 by omega)
  have h4 := Int.emod_lt_of_pos (IntKind.u64.wrap a) h0
  generalize IntKind.u64.wrap a % m = x at h3 h4
  unfold wrap64
  omega
theorem parsed_ok {s : ByteArray} {x : Rs19} {w : World} (hE : Env19 w) (hs : s.size ≤ 20000) (ht : textV s.data.toList = .inr x) : Calls Tryz.prog 11 #[.string s] w fun e w' => ∃ v1 v2, e = .returned (.tuple #[.agg (rsv v1 v2), .nilIface]) ∧ A9O w' w.heap.size v1 x.servers ∧ RwO w' w.heap.size v2 (x.rules.map rwR) ∧ Below w.heap.size w w' := by
  have K := parsed19 s hs hE
  rw [ht] at K
  refine K.mono ?_
  rintro e w' ⟨v, rfl, ⟨v1, v2, rfl, h1, h2⟩, hb⟩
  exact ⟨v1, v2, rfl, h1, h2, hb⟩
end Go.Proofs.YtoagfmonfgagbaaGreatDoor

namespace Go.Proofs.YtoagfmonfgagbaaGreatDoor
open Go.RowKit
set_option maxRecDepth 100000
theorem a9C_cons (t : Ad19) (xs : List Ad19) : a9C (t :: xs) = (a9v t).toList ++ a9C xs := by simp [a9C, a9L, Value.cells]
theorem a9C_inv : ∀ {xs : List Ad19}, (∀ r ∈ xs, A9ok r) → ∀ {j : Nat} {u : Value}, (a9C xs)[j]? = some u → ∃ i r t, xs[i]? = some t ∧ (a9v t).toList[r]? = some u ∧ j = i * 17 + r
  | [], _, j, u, h => by simp [a9C, a9L] at h
  | t :: xs, hk, j, u, h => by
    have hs : (a9v t).toList.length = 17 := by rw [Array.length_toList]; exact a9v_size (hk t (List.mem_cons_self ..))
    rw [a9C_cons] at h
    by_cases hj : j < 17
    · rw [List.getElem?_append_left (by omega)] at h
      exact ⟨0, j, t, rfl, h, by omega⟩
    · rw [List.getElem?_append_right (by omega), hs] at h
      obtain ⟨i, r, t', h1, h2, h3⟩ := a9C_inv (fun r hr => hk r (List.mem_cons_of_mem _ hr)) h
      exact ⟨i + 1, r, t', h1, h2, by omega⟩
theorem A9S.cells {w : World} {ad : Addr} {n c : Nat} {xs : List Ad19} (h : A9S w (some ad) n c xs) : ∀ j u, (a9C xs)[j]? = some u → w.cell? (ad.add j) = some u := fun j u hj => by
  obtain ⟨i, r, t, h1, h2, h3⟩ := a9C_inv h.ok hj
  obtain ⟨b, off, e, hr⟩ := h.here i t h1
  cases e
  rw [add_plain, h3, ← Nat.add_assoc]
  exact hr r u h2
section
variable {ops : Array Oper} {rest : List Oper} {o : Oper} {a : Act} {w : World} {Q : Exit → Act → World → Prop}
theorem wp_cat_a9 {K : Act → World → Prop} (s x : Operand)
    (ho : o.op = .call { callee := .builtin .append, args := #[s, x], argTypes := #[22, 22] }) (base : Nat) (hs : a.eval s = .slice none 0 0)
    {A : Option Addr} {n c : Nat} {ys : List Ad19} (hx : a.eval x = .slice A n c) (hy : A9S w A n c ys) (hm : n ≤ 1000000) (hbase : base ≤ w.heap.size)
    (h : ∀ v' w', A9O w' base v' ys → w.grownBy w' none → (v'.ownBlock = none ∨ v'.ownBlock = some w.heap.size) → K (a.put o.dst v') w') : o.wp Tryz.prog a w K Q := by
  obtain ⟨i, h1, h2, h3, h4⟩ := info_of18 infoA9
  cases A with
  | none =>
    obtain rfl := hy.none_ rfl
    obtain rfl : n = 0 := by have := hy.cap; omega
    obtain rfl := List.eq_nil_of_length_eq_zero hy.len
    have hrun := run_append_owned_none (P := Tryz.prog) (w := w) base 22 o.type 51 i 17 Tryz.underlying22 h1 (.slice none 0 0) 0 [] (World.ownsRow_nil _ _ _ _)
    unfold Oper.wp execOp
    simp only [ho, resolve, invoke, builtin, Sem.run_bind, Sem.run_pure, Result.andThen_ok, List.map_toArray, List.map_cons, List.map_nil, hs, hx, hrun]
    exact h _ w (A9O.nil w base) ⟨rfl, rfl, rfl, Nat.le_refl _, fun _ _ _ => rfl⟩ (.inl rfl)
  | some ad =>
    refine wp_append_at w s x 22 ho base 51 i _ 17 17 Tryz.underlying22 h1 h2 h3 h4 (by kernel_rfl) (by decide) (.slice none 0 0) 0 [] hs (World.ownsRow_nil _ _ _ _) ad n c (a9C ys) hx (by rw [a9C_len hy.ok, hy.len]) hy.cells (fun u hu => ?_) (by unfold maxLen; omega) (by omega) hbase ?_
    · unfold a9C a9L at hu
      obtain ⟨v', hv', hu'⟩ := List.mem_flatMap.1 hu
      obtain ⟨t, ht, rfl⟩ := List.mem_map.1 hv'
      exact (Array.all_eq_true'.1 (a9v_one (hy.ok t ht))) u (by simpa [Value.cells] using hu')
    · intro v' w' o' g' _ hat
      refine h v' w' ⟨?_, hy.ok⟩ g' hat
      rw [Nat.zero_add, List.nil_append] at o'
      rw [hy.len]
      exact o'
theorem run_build_rs1 (A : Option Addr) (n c : Nat) (w : World) : (Instr.build 25 #[(0, .slice A n c)]).run Tryz.prog w = .ok (.agg (rsv (.slice A n c) (.slice none 0 0))) w := by kernel_rfl
theorem run_build_rs2 (A : Option Addr) (n c : Nat) (w : World) : (Instr.build 25 #[(1, .slice A n c)]).run Tryz.prog w = .ok (.agg (rsv (.slice none 0 0) (.slice A n c))) w := by kernel_rfl
theorem wp_build_rs1 {K : Act → World → Prop} (x : Operand) (ho : o.op = .build 25 #[(0, x)]) (A : Option Addr) (n c : Nat) (hx : a.eval x = .slice A n c)
    (h : K (a.put o.dst (.agg (rsv (.slice A n c) (.slice none 0 0)))) w) : o.wp Tryz.prog a w K Q := by
  have hrun := run_build_rs1 A n c w
  unfold Oper.wp execOp
  simp only [ho, Sem.run_bind, Sem.run_pure, Result.andThen_ok, List.map_toArray, List.map_cons, List.map_nil, hx, hrun]
  exact h
theorem wp_build_rs2 {K : Act → World → Prop} (x : Operand) (ho : o.op = .build 25 #[(1, x)]) (A : Option Addr) (n c : Nat) (hx : a.eval x = .slice A n c)
    (h : K (a.put o.dst (.agg (rsv (.slice none 0 0) (.slice A n c)))) w) : o.wp Tryz.prog a w K Q := by
  have hrun := run_build_rs2 A n c w
  unfold Oper.wp execOp
  simp only [ho, Sem.run_bind, Sem.run_pure, Result.andThen_ok, List.map_toArray, List.map_cons, List.map_nil, hx, hrun]
  exact h
theorem run_build_rw4 (al : Bool) (p l h : Int) (w : World) : (Instr.build 55 #[(0, .bool al), (4, .int .i64 p), (5, .int .i64 l), (6, .int .i64 h)]).run Tryz.prog w = .ok (.agg (rwv ⟨al, [], false, false, List.replicate 16 0, 0, p, l, h⟩)) w := by kernel_rfl
theorem wp_build_rw4 {K : Act → World → Prop} (x0 x4 x5 x6 : Operand) (ho : o.op = .build 55 #[(0, x0), (4, x4), (5, x5), (6, x6)]) (al : Bool) (p l u : Int) (h0 : a.eval x0 = .bool al) (h4 : a.eval x4 = .int .i64 p) (h5 : a.eval x5 = .int .i64 l) (h6 : a.eval x6 = .int .i64 u)
    (h : K (a.put o.dst (.agg (rwv ⟨al, [], false, false, List.replicate 16 0, 0, p, l, u⟩))) w) : o.wp Tryz.prog a w K Q := by
  have hrun := run_build_rw4 al p l u w
  unfold Oper.wp execOp
  simp only [ho, Sem.run_bind, Sem.run_pure, Result.andThen_ok, List.map_toArray, List.map_cons, List.map_nil, h0, h4, h5, h6, hrun]
  exact h
end
theorem RwBox.put1 {w : World} {g : Nat} {r : Rw} (h : RwBox w g r) (l : List UInt8) : RwBox (w.setCell ⟨g, 1, none⟩ (.string (mkS l))) g { r with name := l } := by
  have h1 := h.row.put 1 (.string (mkS l))
  refine RwBox.of_row ?_ h.2
  have e : (rwv r).toList.set 1 (.string (mkS l)) = (rwv { r with name := l }).toList := by rw [rwv_list, rwv_list]; rfl
  rw [← e]
  exact h1
theorem RwBox.put2 {w : World} {g : Nat} {r : Rw} (h : RwBox w g r) (b : Bool) : RwBox (w.setCell ⟨g, 2, none⟩ (.bool b)) g { r with wild := b } := by
  have h1 := h.row.put 2 (.bool b)
  refine RwBox.of_row ?_ h.2
  have e : (rwv r).toList.set 2 (.bool b) = (rwv { r with wild := b }).toList := by rw [rwv_list, rwv_list]; rfl
  rw [← e]
  exact h1
theorem RB.set1 {W : World} {base g : Nat} {v1 v2 v1' : Value} {r : Rs19} {ss : List Ad19} (h : RB W base g v1 v2 r) (ho : A9O W base v1' ss) (hg : ∀ b, v1'.ownBlock = some b → b ≠ g ∧ v2.ownBlock ≠ some b) :
    RB (W.setCell ⟨g, 0, none⟩ v1') base g v1' v2 ⟨ss, r.rules⟩ := by
  have hr : Row W g 25 [v1, v2] := h.box
  have hfar : ∀ k, k ≠ g → (W.setCell ⟨g, 0, none⟩ v1').heap[k]? = W.heap[k]? := fun k hk => Below.heap_setCell W ⟨g, 0, none⟩ v1' k hk
  exact ⟨hr.put 0 v1', ho.kept fun b hb => hfar b (hg b hb).1, h.u.kept fun b hb => hfar b fun e => h.n2 (by rw [hb, e]), fun e => (hg g e).1 rfl, h.n2, fun b hb => (hg b hb).2, h.base_g⟩
theorem playPort19 (v : Int) (w : World) : Calls Tryz.prog 20 #[.int .i64 v] w fun e w' => e = .returned (.int .i64 (wrap64 ((IntKind.u64.wrap v).tmod 65536))) ∧ w = w' := by
  go_enter Tryz.func20, Tryz.ntmps20
  go_wp2
  go_ret
  exact ⟨rfl, rfl⟩
end Go.Proofs.YtoagfmonfgagbaaGreatDoor

namespace Go.Proofs.YtoagfmonfgagbaaGreatDoor
open Go.RowKit
set_option maxRecDepth 100000
theorem star_right {l : List UInt8} (h : rightN l) (h0 : l ≠ []) (hn : l.length ≤ 60) : rightN (42 :: 46 :: l) := by
  have hj : joinD (labsN l) = l := joinD_labsN l
  have hl : labsN (42 :: 46 :: l) = [42] :: labsN l := by
    have hne := labsN_ne h0
    have e : (42 :: 46 :: l : List UInt8) = joinD ([42] :: labsN l) := by
      cases hc : labsN l with
      | nil => exact absurd hc hne
      | cons a r =>
        rw [hc] at hj
        conv => lhs; rw [← hj]
        rfl
    rw [e]
    refine labsN_joinD fun x hx => ?_
    rcases List.mem_cons.1 hx with rfl | hx
    · exact ⟨by decide, by decide⟩
    · exact ⟨labsN_no x hx, labOk_ne (h.1 x hx)⟩
  refine ⟨fun x hx => ?_, ?_⟩
  · rw [hl] at hx
    rcases List.mem_cons.1 hx with rfl | hx
    · exact ⟨fun c hc => by obtain rfl := List.mem_singleton.1 hc; decide, by decide, by decide⟩
    · exact h.1 x hx
  · rw [sizeL_labsN (List.cons_ne_nil _ _)]
    simp only [List.length_cons]
    omega
theorem oneD_rule {x : Rw} (h : OneD x) (hx : x.ok) (hn : x.name.length ≤ 60) : ∃ y : Ru19, rwR y = x ∧ oneR fx y = true ∧ patLen y ≤ 62 := by
  obtain ⟨al, nm, wd, v6, ad, bt, pr, lo, hi⟩ := x
  obtain ⟨h1, h2, h3, h4, h5⟩ := h
  dsimp only at h1 h2 h3 h4 h5 hn
  have hok : ad.length = 16 := hx
  have elo : ((lo.toNat : Nat) : Int) = lo := Int.toNat_of_nonneg h2
  have ehi : ((hi.toNat : Nat) : Int) = hi := Int.toNat_of_nonneg (by omega)
  rcases h5 with ⟨rfl, rfl, h5⟩ | ⟨h5, h6, rfl, rfl, rfl⟩
  · have hb : 0 ≤ bt := by
      unfold rightnetv at h5
      simp only [Bool.and_eq_true, decide_eq_true_eq] at h5
      omega
    have eb : ((bt.toNat : Nat) : Int) = bt := Int.toNat_of_nonneg hb
    refine ⟨⟨al, .inr (v6, ad, bt.toNat), pr, lo.toNat, hi.toNat⟩, ?_, ?_, Nat.zero_le _⟩
    · show (⟨al, [], false, v6, ad, ((bt.toNat : Nat) : Int), pr, ((lo.toNat : Nat) : Int), ((hi.toNat : Nat) : Int)⟩ : Rw) = _
      rw [elo, ehi, eb]
    · unfold oneR
      rw [h1]
      have hp : patOk fx (.inr (v6, ad, bt.toNat) : Sum (List UInt8 × Bool) Nt19) = true := by
        show (ad.length == 16 && rightnetv v6 ad ((bt.toNat : Nat) : Int)) = true
        rw [eb, h5, hok]
        rfl
      rw [show (⟨al, .inr (v6, ad, bt.toNat), pr, lo.toNat, hi.toNat⟩ : Ru19).pat = .inr (v6, ad, bt.toNat) from rfl, hp]
      simp
      omega
  · refine ⟨⟨al, .inl (nm, wd), pr, lo.toNat, hi.toNat⟩, ?_, ?_, ?_⟩
    · show (⟨al, nm, wd, false, List.replicate 16 0, 0, pr, ((lo.toNat : Nat) : Int), ((hi.toNat : Nat) : Int)⟩ : Rw) = _
      rw [elo, ehi]
    · unfold oneR
      rw [h1]
      have hr : rightN nm := by
        unfold plainN at h6
        simp only [Bool.and_eq_true] at h6
        exact of_decide_eq_true h6.1.1.1
      have hp : patOk fx (.inl (nm, wd) : Sum (List UInt8 × Bool) Nt19) = true := by
        show (plainN fx nm && (!wd || decide (rightN (42 :: 46 :: nm)))) = true
        rw [h6, decide_eq_true (star_right hr h5 hn)]
        simp
      rw [show (⟨al, .inl (nm, wd), pr, lo.toNat, hi.toNat⟩ : Ru19).pat = .inl (nm, wd) from rfl, hp]
      simp
      omega
    · show (patternT (nm, wd)).length ≤ 62
      unfold patternT
      split
      · simp only [List.length_cons]; omega
      · show nm.length ≤ 62; omega
theorem rwv_splice (r : Rw) (hk : r.ok) (v6 : Bool) {bs : List UInt8} (hb : bs.length = 16) (n : Int) : splice (rwv r) 3 (pxv v6 bs n) = rwv { r with v6 := v6, adr := bs, bits := n } := by
  have e1 : (pxv v6 bs n).toList.length = 18 := by rw [Array.length_toList]; exact pxv_size v6 n hb
  have e2 : (pxv r.v6 r.adr r.bits).toList.length = 18 := by rw [Array.length_toList]; exact pxv_size r.v6 r.bits hk
  have e : (splice (rwv r) 3 (pxv v6 bs n)).toList = (rwv { r with v6 := v6, adr := bs, bits := n }).toList := by
    unfold splice
    rw [List.toList_toArray, rwv_list, rwv_list]
    have h3 : ([Value.bool r.allow, Value.string (mkS r.name), Value.bool r.wild] ++ ((pxv r.v6 r.adr r.bits).toList ++ [Value.int .i64 r.proto, Value.int .i64 r.low, Value.int .i64 r.high])).take 3 = [Value.bool r.allow, Value.string (mkS r.name), Value.bool r.wild] := rfl
    have h4 : ([Value.bool r.allow, Value.string (mkS r.name), Value.bool r.wild] ++ ((pxv r.v6 r.adr r.bits).toList ++ [Value.int .i64 r.proto, Value.int .i64 r.low, Value.int .i64 r.high])).drop (3 + (pxv v6 bs n).size) = [Value.int .i64 r.proto, Value.int .i64 r.low, Value.int .i64 r.high] := by
      rw [pxv_size v6 n hb]
      rw [List.drop_append, List.drop_append]
      rw [List.drop_eq_nil_of_le (by simp), List.drop_eq_nil_of_le (by simp only [List.length_cons, List.length_nil]; omega)]
      simp only [List.length_cons, List.length_nil]
      rw [e2]
      rfl
    rw [h3, h4]
  have h := congrArg List.toArray e
  simpa using h
theorem RwBox.net {w : World} {g : Nat} {r : Rw} (h : RwBox w g r) (v6 : Bool) {bs : List UInt8} (hb : bs.length = 16) (n : Int) : RwBox (w.setRow g (splice (rwv r) 3 (pxv v6 bs n))) g { r with v6 := v6, adr := bs, bits := n } := by
  rw [rwv_splice r h.2 v6 hb n]
  exact ⟨setRow_heap w g _ _ _ _ h.1, hb⟩
section
variable {ops : Array Oper} {rest : List Oper} {o : Oper} {a : Act} {w : World} {Q : Exit → Act → World → Prop}
theorem wpList_store_net (hgd : o.guard = none) (x y : Operand) (ho : o.op = .store 53 x y) {g : Nat} {r : Rw} (hx : a.eval x = .pointer (some ⟨g, 3, none⟩)) {v6 : Bool} {bs : List UInt8} {n : Int} (hy : a.eval y = .agg (pxv v6 bs n)) (hb : bs.length = 16) (hA : RwBox w g r)
    (h : ∀ w', RwBox w' g { r with v6 := v6, adr := bs, bits := n } → (∀ k, k ≠ g → w'.heap[k]? = w.heap[k]?) → w'.heap.size = w.heap.size → (∀ B w0, B ≤ g → Below B w0 w → Below B w0 w') → wpList Tryz.prog ops Q rest (a.put o.dst undef) w') : wpList Tryz.prog ops Q (o :: rest) a w :=
  wpList_store_in hgd 53 x y ho g 3 (pxv v6 bs n) hx hy hA.1 (by rw [pxv_size v6 n hb, rwv_size hA.2]; decide) (by rw [pxv_size v6 n hb]; decide) (px_size v6 n hb) (pxv_one v6 bs n)
    (h _ (hA.net v6 hb n) (fun k hk => setRow_other w g k _ hk) (size_setRow w g _) (fun B w0 hB hb => below_setRow hb hB _))
end
end Go.Proofs.YtoagfmonfgagbaaGreatDoor

namespace Go.Proofs.YtoagfmonfgagbaaGreatDoor
open Go.RowKit
set_option maxRecDepth 100000
theorem plainA19 (q : Ad19) (hq : A9ok q) (w : World) : Calls Tryz.prog 53 #[.agg (a9v q), .agg (a9v q)] w fun e w' => e = .returned (.bool true) ∧ Below w.heap.size w w' := by
  have a1 := World.alloc_heap_new w (.cells (a9v q) 51)
  have b1 : Below w.heap.size w (w.alloc (.cells (a9v q) 51)) := (Below.refl _ _).alloc (Nat.le_refl _) _
  have a2 := World.alloc_heap_new (w.alloc (.cells (a9v q) 51)) (.cells (a9v q) 51)
  rw [World.size_alloc] at a2
  have b2 : Below (w.heap.size + 1) (w.alloc (.cells (a9v q) 51)) ((w.alloc (.cells (a9v q) 51)).alloc (.cells (a9v q) 51)) := (Below.refl _ _).alloc (by simp) _
  have hA := And.intro (range_blk19 ((b2.block w.heap.size (by omega)).trans a1)) (And.intro (range_blk19 a2) (b1.trans (b2.mono (by omega))))
  obtain ⟨W, hW⟩ : ∃ W, (w.alloc (.cells (a9v q) 51)).alloc (.cells (a9v q) 51) = W := ⟨_, rfl⟩
  rw [hW] at hA
  have HA := Lib.hid hA
  have heq : ∀ w, (binOp .eql 51 (.agg (a9v q)) (.agg (a9v q))).run Tryz.prog w = .ok (.bool true) w := fun w => by
    have h := eql_ad q.1 q.1 hq hq w
    rw [show ((q.1 == q.1) && (q.2 == q.2)) = true by simp] at h
    exact h
  obtain ⟨X, hX⟩ : ∃ X, a9v q = X := ⟨_, rfl⟩
  rw [hX] at heq hW ⊢
  have HW := Lib.hid hW
  have HX := Lib.hid hX
  clear a1 a2 b1 b2 hA hW hX
  go_enter Tryz.func53, Tryz.ntmps53
  go_wp2_with (first
    | (rw [HW.out]; refine wpList_load_a9 rfl (.tmp 2) rfl (b := w.heap.size) (f := 0) rfl hq HA.out.1 ?_; rw [HX.out])
    | (refine wpList_load_a9 rfl (.tmp 3) rfl (b := w.heap.size + 1) (f := 0) rfl hq HA.out.2.1 ?_; rw [HX.out]))
  go_ret
  exact ⟨rfl, HA.out.2.2⟩
set_option maxHeartbeats 2000000 in
theorem sameA19 {A B : Option Addr} {n c m d : Nat} {xs : List Ad19} {w : World} (ha : A9S w A n c xs) (hb : A9S w B m d xs) : Calls Tryz.prog 52 #[.slice A n c, .slice B m d, .func (.func 53) #[] #[]] w fun e w' => e = .returned (.bool true) ∧ Below w.heap.size w w' := by
  obtain rfl : m = n := hb.len.symm.trans ha.len
  have hmax := Nat.le_trans ha.cap ha.max
  unfold maxLen at hmax
  have hl := ha.len
  have HA := Lib.hid (And.intro ha hb)
  clear ha hb
  go_enter Tryz.func52, Tryz.ntmps52
  go_wp2_with fail
  go_loopw [7] (fun i wr => ∃ k : Nat, k ≤ m ∧ i = .int .i64 k ∧ Below w.heap.size w wr) (fun i _ => m - (intOf i).toNat)
  case atStart => exact ⟨0, Nat.zero_le _, rfl, Below.refl _ _⟩
  case round =>
    obtain ⟨k, hk, rfl, hbe⟩ := hrel
    by_cases hlt : k < m
    · obtain ⟨x, hx⟩ : ∃ x, xs[k]? = some x := ⟨xs[k]'(by omega), List.getElem?_eq_getElem _⟩
      have hxo := HA.out.1.ok x (List.mem_of_getElem? hx)
      obtain ⟨b, off, hA1, hr1⟩ := (HA.out.1.later hbe (Nat.le_refl _)).here k x hx
      obtain ⟨b', off', hA2, hr2⟩ := (HA.out.2.later hbe (Nat.le_refl _)).here k x hx
      subst hA1 hA2
      obtain ⟨X1, hX1⟩ : ∃ X, a9v x = X := ⟨_, rfl⟩
      obtain ⟨X2, hX2⟩ : ∃ X, a9v x = X := ⟨_, rfl⟩
      have HX1 := Lib.hid (And.intro hX1 hxo)
      have HX2 := Lib.hid hX2
      have hs1 : (Tryz.prog.info? 51).map (·.size) = some X1.size := by rw [← hX1]; exact ad_size x.1 hxo
      have hs2 : (Tryz.prog.info? 51).map (·.size) = some X2.size := by rw [← hX2]; exact ad_size x.1 hxo
      rw [hX1] at hr1
      rw [hX2] at hr2
      have HR := Lib.hid (And.intro hr1 hr2)
      have HD := Lib.hid hbe
      have HS := Lib.hid (And.intro hs1 hs2)
      clear hbe hx hr1 hr2 hX1 hX2 hs1 hs2 hxo
      have g0 : (0 : Int) ≤ (k : Int) := by omega
      have g1 : (k : Int) < (m : Int) := by omega
      go_wp2_with fail
      have hS : Below wr.heap.size wr wr.drew := (Below.refl _ _).drew
      refine rg_begin (fun w' => Below wr.heap.size wr w') 11 (by kernel_rfl) rfl ?_
      refine rg_take 0 (v := ?rv1) rfl (by kernel_rfl) (by kernel_rfl) (by kernel_rfl) (fun _ _ _ h => h) (by rfl) hS (fun w2 hw2 => ?ry1) ?rr1
      case ry1 => ((try dsimp only at hw2); go_simp <;> with_reducible rfl)
      simp only [Act.put, List.setIfInBounds_toArray, List.set_cons_zero, List.set_cons_succ]
      refine rg_take 1 (v := ?rv2) rfl (by kernel_rfl) (by kernel_rfl) (by kernel_rfl) (fun _ _ _ h => h) (by rfl) hS (fun w2 hw2 => ?ry2) ?rr2
      case ry2 => ((try dsimp only at hw2); go_simp <;> with_reducible rfl)
      simp only [Act.put, List.setIfInBounds_toArray, List.set_cons_zero, List.set_cons_succ]
      refine rg_take 2 (v := ?rv3) rfl (by kernel_rfl) (by kernel_rfl) (by kernel_rfl) (fun _ _ _ h => h) (by rfl) hS (fun w2 hw2 => ?ry3) ?rr3
      case ry3 => ((try dsimp only at hw2); go_simp <;> with_reducible rfl)
      simp only [Act.put, List.setIfInBounds_toArray, List.set_cons_zero, List.set_cons_succ]
      refine rg_take 5 (v := ?rv4) rfl (by kernel_rfl) (by kernel_rfl) (by kernel_rfl) (fun _ _ _ h => h) (by rfl) hS (fun w2 hw2 => ?ry4) ?rr4
      case ry4 => ((try dsimp only at hw2); go_simp <;> with_reducible rfl)
      simp only [Act.put, List.setIfInBounds_toArray, List.set_cons_zero, List.set_cons_succ]
      refine rg_take 6 (v := ?rv5) rfl (by kernel_rfl) (by kernel_rfl) (by kernel_rfl) (fun _ _ _ h => h) (by rfl) hS (fun w2 hw2 => ?ry5) ?rr5
      case ry5 => ((try dsimp only at hw2); go_simp <;> with_reducible rfl)
      simp only [Act.put, List.setIfInBounds_toArray, List.set_cons_zero, List.set_cons_succ]
      refine rg_take 3 (v := ?rv6) rfl (by kernel_rfl) (by kernel_rfl) (by kernel_rfl) (fun _ _ _ h => h) (by rfl) hS (fun w2 hw2 => ?ry6) ?rr6
      case ry6 => ((try dsimp only at hw2); go_simp <;> with_reducible rfl)
      simp only [Act.put, List.setIfInBounds_toArray, List.set_cons_zero, List.set_cons_succ]
      refine rg_take 7 (v := ?rv7) rfl (by kernel_rfl) (by kernel_rfl) (by kernel_rfl) (fun _ _ _ h => h) (by rfl) hS (fun w2 hw2 => ?ry7) ?rr7
      case ry7 => ((try dsimp only at hw2); go_simp <;> with_reducible rfl)
      simp only [Act.put, List.setIfInBounds_toArray, List.set_cons_zero, List.set_cons_succ]
      refine rg_load 4 rfl (by kernel_rfl) (by kernel_rfl) (by kernel_rfl) (b) (off + k * 17) (X1) (fun _ _ _ h => h) (by rfl) 51 (.tmp 22) rfl rfl hS (fun w2 h2 => range_kept HR.out.1 h2 (Nat.le_refl _)) Tryz.underlying51 rfl (HS.out.1) ?_
      simp only [Act.put, List.setIfInBounds_toArray, List.set_cons_zero, List.set_cons_succ]
      refine rg_load 8 rfl (by kernel_rfl) (by kernel_rfl) (by kernel_rfl) (b') (off' + k * 17) (X2) (fun _ _ _ h => h) (by rfl) 51 (.tmp 26) rfl rfl hS (fun w2 h2 => range_kept HR.out.2 h2 (Nat.le_refl _)) Tryz.underlying51 rfl (HS.out.2) ?_
      simp only [Act.put, List.setIfInBounds_toArray, List.set_cons_zero, List.set_cons_succ]
      refine rg_step 9 rfl (by kernel_rfl) (by rfl) (fun K hK => ?_)
      go_simp
      rw [← HX1.out.1, ← HX2.out]
      refine (plainA19 x HX1.out.2 _).mono ?_
      rintro e w' ⟨rfl, bk⟩
      replace hS := hS.trans (bk.mono hS.size)
      clear bk
      refine hK.out _ _ hS ?_
      clear hK K
      try simp only [Act.put, List.setIfInBounds_toArray, List.set_cons_zero, List.set_cons_succ]
      refine rg_take 10 (v := ?rv8) rfl (by kernel_rfl) (by kernel_rfl) (by kernel_rfl) (fun _ _ _ h => h) (by rfl) hS (fun w2 hw2 => ?ry8) ?rr8
      case ry8 => ((try dsimp only at hw2); go_simp <;> with_reducible rfl)
      simp only [Act.put, List.setIfInBounds_toArray, List.set_cons_zero, List.set_cons_succ]
      refine rg_done (by kernel_rfl) ?_
      have H2 := Lib.hid (HD.out.trans (Below.mono hS HD.out.size))
      clear hS
      go_wp2_with fail
      exact ⟨⟨k + 1, hlt, by go_num, H2.out⟩, by simp [intOf]; omega⟩
    · have H2 := Lib.hid hbe
      clear hbe
      go_wp2_with fail
      go_ret
      exact ⟨rfl, H2.out⟩
theorem allA19 {A B : Option Addr} {n c m d : Nat} {xs : List Ad19} {w : World} (ha : A9S w A n c xs) (hb : A9S w B m d xs) : Calls Tryz.prog 33 #[.slice A n c, .slice B m d] w fun e w' => e = .returned (.bool true) ∧ Below w.heap.size w w' := by
  have H := Lib.hid (sameA19 ha hb)
  clear ha hb
  go_enter Tryz.func33, Tryz.ntmps33
  go_wp2_with fail
  refine H.out.mono ?_
  rintro e w' ⟨rfl, b⟩
  have HB := Lib.hid b
  clear b
  go_wp2_with fail
  go_ret
  exact ⟨rfl, HB.out⟩
theorem plainR19 (q : Rw) (hq : q.ok) (w : World) : Calls Tryz.prog 55 #[.agg (rwv q), .agg (rwv q)] w fun e w' => e = .returned (.bool true) ∧ Below w.heap.size w w' := by
  have a1 := World.alloc_heap_new w (.cells (rwv q) 55)
  have b1 : Below w.heap.size w (w.alloc (.cells (rwv q) 55)) := (Below.refl _ _).alloc (Nat.le_refl _) _
  have a2 := World.alloc_heap_new (w.alloc (.cells (rwv q) 55)) (.cells (rwv q) 55)
  rw [World.size_alloc] at a2
  have b2 : Below (w.heap.size + 1) (w.alloc (.cells (rwv q) 55)) ((w.alloc (.cells (rwv q) 55)).alloc (.cells (rwv q) 55)) := (Below.refl _ _).alloc (by simp) _
  have hA := And.intro (range_blk19 ((b2.block w.heap.size (by omega)).trans a1)) (And.intro (range_blk19 a2) (b1.trans (b2.mono (by omega))))
  obtain ⟨W, hW⟩ : ∃ W, (w.alloc (.cells (rwv q) 55)).alloc (.cells (rwv q) 55) = W := ⟨_, rfl⟩
  rw [hW] at hA
  have HA := Lib.hid hA
  have heq : ∀ w, (binOp .eql 55 (.agg (rwv q)) (.agg (rwv q))).run Tryz.prog w = .ok (.bool true) w := fun w => by
    have h := eql_rw hq hq w
    rw [decide_eq_true rfl] at h
    exact h
  obtain ⟨X, hX⟩ : ∃ X, rwv q = X := ⟨_, rfl⟩
  rw [hX] at heq hW ⊢
  have HW := Lib.hid hW
  have HX := Lib.hid hX
  clear a1 a2 b1 b2 hA hW hX
  go_enter Tryz.func55, Tryz.ntmps55
  go_wp2_with (first
    | (rw [HW.out]; refine wpList_load_rw rfl (.tmp 2) rfl (b := w.heap.size) (f := 0) rfl hq HA.out.1 ?_; rw [HX.out])
    | (refine wpList_load_rw rfl (.tmp 3) rfl (b := w.heap.size + 1) (f := 0) rfl hq HA.out.2.1 ?_; rw [HX.out]))
  go_ret
  exact ⟨rfl, HA.out.2.2⟩
set_option maxHeartbeats 2000000 in
theorem sameR19 {A B : Option Addr} {n c m d : Nat} {xs : List Rw} {w : World} (ha : RwS w A n c xs) (hb : RwS w B m d xs) : Calls Tryz.prog 54 #[.slice A n c, .slice B m d, .func (.func 55) #[] #[]] w fun e w' => e = .returned (.bool true) ∧ Below w.heap.size w w' := by
  obtain rfl : m = n := hb.len.symm.trans ha.len
  have hmax := Nat.le_trans ha.cap ha.max
  unfold maxLen at hmax
  have hl := ha.len
  have HA := Lib.hid (And.intro ha hb)
  clear ha hb
  go_enter Tryz.func54, Tryz.ntmps54
  go_wp2_with fail
  go_loopw [7] (fun i wr => ∃ k : Nat, k ≤ m ∧ i = .int .i64 k ∧ Below w.heap.size w wr) (fun i _ => m - (intOf i).toNat)
  case atStart => exact ⟨0, Nat.zero_le _, rfl, Below.refl _ _⟩
  case round =>
    obtain ⟨k, hk, rfl, hbe⟩ := hrel
    by_cases hlt : k < m
    · obtain ⟨x, hx⟩ : ∃ x, xs[k]? = some x := ⟨xs[k]'(by omega), List.getElem?_eq_getElem _⟩
      have hxo := HA.out.1.ok x (List.mem_of_getElem? hx)
      obtain ⟨b, off, hA1, hr1⟩ := (HA.out.1.later hbe (Nat.le_refl _)).here k x hx
      obtain ⟨b', off', hA2, hr2⟩ := (HA.out.2.later hbe (Nat.le_refl _)).here k x hx
      subst hA1 hA2
      obtain ⟨X1, hX1⟩ : ∃ X, rwv x = X := ⟨_, rfl⟩
      obtain ⟨X2, hX2⟩ : ∃ X, rwv x = X := ⟨_, rfl⟩
      have HX1 := Lib.hid (And.intro hX1 hxo)
      have HX2 := Lib.hid hX2
      have hs1 : (Tryz.prog.info? 55).map (·.size) = some X1.size := by rw [← hX1]; exact rw_size hxo
      have hs2 : (Tryz.prog.info? 55).map (·.size) = some X2.size := by rw [← hX2]; exact rw_size hxo
      rw [hX1] at hr1
      rw [hX2] at hr2
      have HR := Lib.hid (And.intro hr1 hr2)
      have HD := Lib.hid hbe
      have HS := Lib.hid (And.intro hs1 hs2)
      clear hbe hx hr1 hr2 hX1 hX2 hs1 hs2 hxo
      have g0 : (0 : Int) ≤ (k : Int) := by omega
      have g1 : (k : Int) < (m : Int) := by omega
      go_wp2_with fail
      have hS : Below wr.heap.size wr wr.drew := (Below.refl _ _).drew
      refine rg_begin (fun w' => Below wr.heap.size wr w') 11 (by kernel_rfl) rfl ?_
      refine rg_take 0 (v := ?rv9) rfl (by kernel_rfl) (by kernel_rfl) (by kernel_rfl) (fun _ _ _ h => h) (by rfl) hS (fun w2 hw2 => ?ry9) ?rr9
      case ry9 => ((try dsimp only at hw2); go_simp <;> with_reducible rfl)
      simp only [Act.put, List.setIfInBounds_toArray, List.set_cons_zero, List.set_cons_succ]
      refine rg_take 1 (v := ?rv10) rfl (by kernel_rfl) (by kernel_rfl) (by kernel_rfl) (fun _ _ _ h => h) (by rfl) hS (fun w2 hw2 => ?ry10) ?rr10
      case ry10 => ((try dsimp only at hw2); go_simp <;> with_reducible rfl)
      simp only [Act.put, List.setIfInBounds_toArray, List.set_cons_zero, List.set_cons_succ]
      refine rg_take 2 (v := ?rv11) rfl (by kernel_rfl) (by kernel_rfl) (by kernel_rfl) (fun _ _ _ h => h) (by rfl) hS (fun w2 hw2 => ?ry11) ?rr11
      case ry11 => ((try dsimp only at hw2); go_simp <;> with_reducible rfl)
      simp only [Act.put, List.setIfInBounds_toArray, List.set_cons_zero, List.set_cons_succ]
      refine rg_take 5 (v := ?rv12) rfl (by kernel_rfl) (by kernel_rfl) (by kernel_rfl) (fun _ _ _ h => h) (by rfl) hS (fun w2 hw2 => ?ry12) ?rr12
      case ry12 => ((try dsimp only at hw2); go_simp <;> with_reducible rfl)
      simp only [Act.put, List.setIfInBounds_toArray, List.set_cons_zero, List.set_cons_succ]
      refine rg_take 6 (v := ?rv13) rfl (by kernel_rfl) (by kernel_rfl) (by kernel_rfl) (fun _ _ _ h => h) (by rfl) hS (fun w2 hw2 => ?ry13) ?rr13
      case ry13 => ((try dsimp only at hw2); go_simp <;> with_reducible rfl)
      simp only [Act.put, List.setIfInBounds_toArray, List.set_cons_zero, List.set_cons_succ]
      refine rg_take 3 (v := ?rv14) rfl (by kernel_rfl) (by kernel_rfl) (by kernel_rfl) (fun _ _ _ h => h) (by rfl) hS (fun w2 hw2 => ?ry14) ?rr14
      case ry14 => ((try dsimp only at hw2); go_simp <;> with_reducible rfl)
      simp only [Act.put, List.setIfInBounds_toArray, List.set_cons_zero, List.set_cons_succ]
      refine rg_take 7 (v := ?rv15) rfl (by kernel_rfl) (by kernel_rfl) (by kernel_rfl) (fun _ _ _ h => h) (by rfl) hS (fun w2 hw2 => ?ry15) ?rr15
      case ry15 => ((try dsimp only at hw2); go_simp <;> with_reducible rfl)
      simp only [Act.put, List.setIfInBounds_toArray, List.set_cons_zero, List.set_cons_succ]
      refine rg_load 4 rfl (by kernel_rfl) (by kernel_rfl) (by kernel_rfl) (b) (off + k * 24) (X1) (fun _ _ _ h => h) (by rfl) 55 (.tmp 22) rfl rfl hS (fun w2 h2 => range_kept HR.out.1 h2 (Nat.le_refl _)) Tryz.underlying55 rfl (HS.out.1) ?_
      simp only [Act.put, List.setIfInBounds_toArray, List.set_cons_zero, List.set_cons_succ]
      refine rg_load 8 rfl (by kernel_rfl) (by kernel_rfl) (by kernel_rfl) (b') (off' + k * 24) (X2) (fun _ _ _ h => h) (by rfl) 55 (.tmp 26) rfl rfl hS (fun w2 h2 => range_kept HR.out.2 h2 (Nat.le_refl _)) Tryz.underlying55 rfl (HS.out.2) ?_
      simp only [Act.put, List.setIfInBounds_toArray, List.set_cons_zero, List.set_cons_succ]
      refine rg_step 9 rfl (by kernel_rfl) (by rfl) (fun K hK => ?_)
      go_simp
      rw [← HX1.out.1, ← HX2.out]
      refine (plainR19 x HX1.out.2 _).mono ?_
      rintro e w' ⟨rfl, bk⟩
      replace hS := hS.trans (bk.mono hS.size)
      clear bk
      refine hK.out _ _ hS ?_
      clear hK K
      try simp only [Act.put, List.setIfInBounds_toArray, List.set_cons_zero, List.set_cons_succ]
      refine rg_take 10 (v := ?rv16) rfl (by kernel_rfl) (by kernel_rfl) (by kernel_rfl) (fun _ _ _ h => h) (by rfl) hS (fun w2 hw2 => ?ry16) ?rr16
      case ry16 => ((try dsimp only at hw2); go_simp <;> with_reducible rfl)
      simp only [Act.put, List.setIfInBounds_toArray, List.set_cons_zero, List.set_cons_succ]
      refine rg_done (by kernel_rfl) ?_
      have H2 := Lib.hid (HD.out.trans (Below.mono hS HD.out.size))
      clear hS
      go_wp2_with fail
      exact ⟨⟨k + 1, hlt, by go_num, H2.out⟩, by simp [intOf]; omega⟩
    · have H2 := Lib.hid hbe
      clear hbe
      go_wp2_with fail
      go_ret
      exact ⟨rfl, H2.out⟩
theorem allR19 {A B : Option Addr} {n c m d : Nat} {xs : List Rw} {w : World} (ha : RwS w A n c xs) (hb : RwS w B m d xs) : Calls Tryz.prog 34 #[.slice A n c, .slice B m d] w fun e w' => e = .returned (.bool true) ∧ Below w.heap.size w w' := by
  have H := Lib.hid (sameR19 ha hb)
  clear ha hb
  go_enter Tryz.func34, Tryz.ntmps34
  go_wp2_with fail
  refine H.out.mono ?_
  rintro e w' ⟨rfl, b⟩
  have HB := Lib.hid b
  clear b
  go_wp2_with fail
  go_ret
  exact ⟨rfl, HB.out⟩
theorem rulesSame19 {A1 B1 A2 B2 : Option Addr} {n1 c1 m1 d1 n2 c2 m2 d2 : Nat} {ss : List Ad19} {us : List Rw} {w : World} (h1 : A9S w A1 n1 c1 ss) (h2 : A9S w B1 m1 d1 ss) (h3 : RwS w A2 n2 c2 us) (h4 : RwS w B2 m2 d2 us) :
    Calls Tryz.prog 14 #[.agg (rsv (.slice A1 n1 c1) (.slice A2 n2 c2)), .agg (rsv (.slice B1 m1 d1) (.slice B2 m2 d2))] w fun e w' => e = .returned (.bool true) ∧ Below w.heap.size w w' := by
  have a1 := World.alloc_heap_new w (.cells (rsv (.slice A1 n1 c1) (.slice A2 n2 c2)) 25)
  have b1 : Below w.heap.size w (w.alloc (.cells (rsv (.slice A1 n1 c1) (.slice A2 n2 c2)) 25)) := (Below.refl _ _).alloc (Nat.le_refl _) _
  have a2 := World.alloc_heap_new (w.alloc (.cells (rsv (.slice A1 n1 c1) (.slice A2 n2 c2)) 25)) (.cells (rsv (.slice B1 m1 d1) (.slice B2 m2 d2)) 25)
  rw [World.size_alloc] at a2
  have b2 : Below (w.heap.size + 1) (w.alloc (.cells (rsv (.slice A1 n1 c1) (.slice A2 n2 c2)) 25)) ((w.alloc (.cells (rsv (.slice A1 n1 c1) (.slice A2 n2 c2)) 25)).alloc (.cells (rsv (.slice B1 m1 d1) (.slice B2 m2 d2)) 25)) := (Below.refl _ _).alloc (by simp) _
  obtain ⟨W, hW⟩ : ∃ W, (w.alloc (.cells (rsv (.slice A1 n1 c1) (.slice A2 n2 c2)) 25)).alloc (.cells (rsv (.slice B1 m1 d1) (.slice B2 m2 d2)) 25) = W := ⟨_, rfl⟩
  have a1' := (b2.block w.heap.size (by omega)).trans a1
  rw [hW] at a1' a2 b2
  have hb : Below w.heap.size w W := b1.trans (b2.mono (by omega))
  have hW' : (w.alloc (.cells #[.slice A1 n1 c1, .slice A2 n2 c2] 25)).alloc (.cells #[.slice B1 m1 d1, .slice B2 m2 d2] 25) = W := hW
  have HW := Lib.hid hW'
  have k0 : W.cell? ⟨w.heap.size, 0, none⟩ = some (.slice A1 n1 c1) := cell_of_row W w.heap.size 0 _ _ _ a1'
  have k2 : W.cell? ⟨w.heap.size + 1, 0, none⟩ = some (.slice B1 m1 d1) := cell_of_row W (w.heap.size + 1) 0 _ _ _ a2
  have HB := Lib.hid (And.intro a1' (And.intro a2 hb))
  have HA := Lib.hid (allA19 (h1.later hb (Nat.le_refl _)) (h2.later hb (Nat.le_refl _)))
  have HR := Lib.hid (fun (w' : World) (h : Below W.heap.size W w') => allR19 ((h3.later hb (Nat.le_refl _)).later h (Nat.le_refl _)) ((h4.later hb (Nat.le_refl _)).later h (Nat.le_refl _)))
  clear a1 a2 b1 b2 a1' hW hW' hb h1 h2 h3 h4
  show Calls Tryz.prog 14 #[.agg #[.slice A1 n1 c1, .slice A2 n2 c2], .agg #[.slice B1 m1 d1, .slice B2 m2 d2]] w _
  go_enter Tryz.func14, Tryz.ntmps14
  go_wp2_with (rw [HW.out])
  refine HA.out.mono ?_
  rintro e w1 ⟨rfl, b1⟩
  have k1 : w1.cell? ⟨w.heap.size, 1, none⟩ = some (.slice A2 n2 c2) := cell_of_row w1 w.heap.size 1 _ _ _ ((b1.block _ (lt_blk HB.out.1)).trans HB.out.1)
  have k3 : w1.cell? ⟨w.heap.size + 1, 1, none⟩ = some (.slice B2 m2 d2) := cell_of_row w1 (w.heap.size + 1) 1 _ _ _ ((b1.block _ (lt_blk HB.out.2.1)).trans HB.out.2.1)
  have H1 := Lib.hid b1
  clear b1 k0 k2
  go_wp2_with fail
  refine (HR.out _ H1.out).mono ?_
  rintro e w2 ⟨rfl, b2⟩
  have H2 := Lib.hid (HB.out.2.2.trans ((H1.out.trans (b2.mono H1.out.size)).mono HB.out.2.2.size))
  clear b2
  go_wp2_with fail
  go_ret
  exact ⟨rfl, H2.out⟩
end Go.Proofs.YtoagfmonfgagbaaGreatDoor
