/-
  Package record's bare, alike: what a type has; whether two have the same. Conditions: those of the slices; 2^47 bytes at most.
  Package record's RightRecord: whatever record. Conditions: those of the slice; names of up to a million bytes; what the program's text has laid.
  Records built in part, and behind a guard; '==' of a question with itself; stockadehelp.Record at one and the same; stockadeplay.port. Conditions: those of the slices; 2^47 bytes at most.
-/
import Derived.Test.YtpojiimcdknafaaGreatDoorZ42
import Derived.Test.YtpojiimcdknafaaGreatDoorZ30
import Derived.Test.YtpojiimcdknafaaGreatDoorZ37
import Derived.Test.YtpojiimcdknafaaGreatDoorZ21
import Derived.Laws.StructEq
namespace Go.Proofs.YtpojiimcdknafaaGreatDoor
open Go.RowKit
set_option maxRecDepth 100000

theorem eql_ad (v u : Bool) {a b : List UInt8} (ha : a.length = 16) (hb : b.length = 16) (w : World) : (binOp .eql 26 (.agg (adv v a)) (.agg (adv u b))).run Tryz.prog w = .ok (.bool ((v == u) && (a == b))) w := by
  rw [run_eql_struct]
  have h1 := eqIn_ad 9997 v u ha hb w
  rw [show (10000 : Nat) = 9997 + 3 from rfl] at *
  simp only [h1]
  rfl
theorem bareV_ok {r : Rc} (hk : r.ok) : (bareV r).ok := by
  unfold bareV
  split
  · exact hk
  split
  · exact hk
  split <;> rfl
set_option maxHeartbeats 4000000 in
theorem bare_any {r : Rc} (hk : r.ok) (A : Option Addr) (n c : Nat) (w : World) : Calls Tryz.prog 63 #[.agg (rcv r A n c)] w fun e w' => ∃ A' n' c', e = .returned (.agg (rcv (bareV r) A' n' c')) ∧ DatOf A' n' c' (bareV r).data A n c r.data ∧ Below w.heap.size w w' := by
  have a1 := RcBox.new w hk A n c
  have b1 : Below w.heap.size w (w.alloc (.cells (rcv r A n c) 28)) := (Below.refl _ _).alloc (Nat.le_refl _) _
  obtain ⟨W, hW⟩ : ∃ W, w.alloc (.cells (rcv r A n c) 28) = W := ⟨_, rfl⟩
  rw [hW] at a1 b1
  have HA := Lib.hid (And.intro a1 b1)
  have HW := Lib.hid hW
  have hle : w.heap.size ≤ W.heap.size := b1.size
  clear a1 b1 hW
  unfold bareV
  by_cases h28 : r.kind = 28
  · rw [if_pos h28]
    obtain ⟨name, kind, cls, ttl, v6, adr, target, data⟩ := r
    dsimp only at h28 ⊢
    subst h28
    go_enter Tryz.func63, Tryz.ntmps63
    go_wp2_with (first
      | (refine wpList_store_rc rfl (.tmp 2) (.tmp 25) rfl ⟨[], 0, 0, 0, true, adr, [], []⟩ none 0 0 rfl rfl HA.out.1.2 H5.out.1 ?_; intro w6 a6 o6 z6 g6; have H6 := Lib.hid (And.intro a6 (g6 w.heap.size w hle H5.out.2.2)); clear a6 o6 z6 g6)
      | (refine wpList_load_rc rfl (.tmp 3) rfl rfl H5.out.2.1 ?_)
      | (refine wpList_store_rcB rfl (.tmp 18) (.tmp 16) rfl rfl rfl HA.out.1.2 H4.out.2.1 ?_; intro w5 a5 o5 z5 g5; have H5 := Lib.hid (And.intro (H4.out.1.same (o5 _ (Nat.ne_of_lt H2.out.1.lt))) (And.intro (show RcBox w5 w2.heap.size ⟨[], 0, 0, 0, true, adr, [], []⟩ none 0 0 from a5) (g5 w.heap.size w H2.out.2.2.size H4.out.2.2.2))); clear a5 o5 z5 g5)
      | (refine wpList_load_rcB rfl (.tmp 15) rfl rfl H4.out.2.2.1 ?_)
      | (refine wpList_putV6_rc rfl (.tmp 13) (.const (.bool true)) rfl true rfl rfl H3.out.2.1 ?_; intro w4 a4 o4 z4 g4; have H4 := Lib.hid (And.intro (H3.out.1.same (o4 _ (Nat.ne_of_lt H2.out.1.lt))) (And.intro a4 (And.intro (H3.out.2.2.1.same (o4 _ (Nat.ne_of_lt H2.out.2.1.lt))) (g4 w.heap.size w H2.out.2.2.size H3.out.2.2.2)))); clear a4 o4 z4 g4)
      | (have q2 := H2.out.2.2; refine wpList_alloc_rc rfl rfl ?_; intro w3 a3 b3 z3; have H3 := Lib.hid (And.intro (H2.out.1.later b3 (Nat.le_refl _)) (And.intro a3 (And.intro (H2.out.2.1.later b3 (Nat.le_refl _)) (q2.trans (b3.mono q2.size))))); (have e1 : w3.cell? ⟨w.heap.size, 1, none⟩ = some (.int .i64 28) := H3.out.2.2.1.kind); clear a3 b3 z3 q2)
      | (rw [HW.out]; refine wpList_alloc_rc rfl rfl ?_; intro w2 a2 b2 z2; have H2 := Lib.hid (And.intro a2 (And.intro (HA.out.1.later b2 (Nat.le_refl _)) (HA.out.2.trans (b2.mono HA.out.2.size)))); clear a2 b2 z2))
    exact bodyPost_ret (results_cell_row rfl _ _ W.heap.size 28 _ (0, 0) _ rfl H6.out.1.1 Tryz.underlying28 rfl (rc_size H6.out.1.2 _ _ _)) rfl ⟨none, 0, 0, rfl, .inl ⟨rfl, rfl, rfl, rfl⟩, H6.out.2⟩
  rw [if_neg h28]
  by_cases h1 : r.kind = 1
  · rw [if_pos h1]
    obtain ⟨name, kind, cls, ttl, v6, adr, target, data⟩ := r
    dsimp only at h1 h28 ⊢
    subst h1
    clear h28
    go_enter Tryz.func63, Tryz.ntmps63
    go_wp2_with (first
      | (refine wpList_store_rc rfl (.tmp 2) (.tmp 25) rfl ⟨[], 0, 0, 0, false, adr, [], []⟩ none 0 0 rfl rfl HA.out.1.2 H5.out.1 ?_; intro w6 a6 o6 z6 g6; have H6 := Lib.hid (And.intro a6 (g6 w.heap.size w hle H5.out.2.2)); clear a6 o6 z6 g6)
      | (refine wpList_load_rc rfl (.tmp 3) rfl rfl H5.out.2.1 ?_)
      | (refine wpList_store_rcB rfl (.tmp 18) (.tmp 16) rfl rfl rfl HA.out.1.2 H3.out.2.1 ?_; intro w5 a5 o5 z5 g5; have H5 := Lib.hid (And.intro (H3.out.1.same (o5 _ (Nat.ne_of_lt H2.out.1.lt))) (And.intro (show RcBox w5 w2.heap.size ⟨[], 0, 0, 0, false, adr, [], []⟩ none 0 0 from a5) (g5 w.heap.size w H2.out.2.2.size H3.out.2.2.2))); clear a5 o5 z5 g5)
      | (refine wpList_load_rcB rfl (.tmp 15) rfl rfl H3.out.2.2.1 ?_)
      | (have q2 := H2.out.2.2; refine wpList_alloc_rc rfl rfl ?_; intro w3 a3 b3 z3; have H3 := Lib.hid (And.intro (H2.out.1.later b3 (Nat.le_refl _)) (And.intro a3 (And.intro (H2.out.2.1.later b3 (Nat.le_refl _)) (q2.trans (b3.mono q2.size))))); (have e1 : w3.cell? ⟨w.heap.size, 1, none⟩ = some (.int .i64 1) := H3.out.2.2.1.kind); clear a3 b3 z3 q2)
      | (rw [HW.out]; refine wpList_alloc_rc rfl rfl ?_; intro w2 a2 b2 z2; have H2 := Lib.hid (And.intro a2 (And.intro (HA.out.1.later b2 (Nat.le_refl _)) (HA.out.2.trans (b2.mono HA.out.2.size)))); clear a2 b2 z2))
    exact bodyPost_ret (results_cell_row rfl _ _ W.heap.size 28 _ (0, 0) _ rfl H6.out.1.1 Tryz.underlying28 rfl (rc_size H6.out.1.2 _ _ _)) rfl ⟨none, 0, 0, rfl, .inl ⟨rfl, rfl, rfl, rfl⟩, H6.out.2⟩
  rw [if_neg h1]
  by_cases h5 : r.kind = 5
  · rw [if_pos h5]
    obtain ⟨name, kind, cls, ttl, v6, adr, target, data⟩ := r
    dsimp only at h1 h28 h5 ⊢
    subst h5
    clear h28 h1
    go_enter Tryz.func63, Tryz.ntmps63
    go_wp2_with (first
      | (refine wpList_store_rc rfl (.tmp 2) (.tmp 25) rfl ⟨[], 0, 0, 0, false, zero16, target, []⟩ none 0 0 rfl rfl rfl H5.out.1 ?_; intro w6 a6 o6 z6 g6; have H6 := Lib.hid (And.intro a6 (g6 w.heap.size w hle H5.out.2.2)); clear a6 o6 z6 g6)
      | (refine wpList_load_rc rfl (.tmp 3) rfl rfl H5.out.2.1 ?_)
      | (refine wpList_putTarget_rc rfl (.tmp 21) (.tmp 20) rfl target rfl rfl H3.out.2.1 ?_; intro w5 a5 o5 z5 g5; have H5 := Lib.hid (And.intro (H3.out.1.same (o5 _ (Nat.ne_of_lt H2.out.1.lt))) (And.intro (show RcBox w5 w2.heap.size ⟨[], 0, 0, 0, false, zero16, target, []⟩ none 0 0 from a5) (g5 w.heap.size w H2.out.2.2.size H3.out.2.2.2))); clear a5 o5 z5 g5)
      | (have q2 := H2.out.2.2; refine wpList_alloc_rc rfl rfl ?_; intro w3 a3 b3 z3; have H3 := Lib.hid (And.intro (H2.out.1.later b3 (Nat.le_refl _)) (And.intro a3 (And.intro (H2.out.2.1.later b3 (Nat.le_refl _)) (q2.trans (b3.mono q2.size))))); (have e1 : w3.cell? ⟨w.heap.size, 1, none⟩ = some (.int .i64 5) := H3.out.2.2.1.kind); (have e21 : w3.cell? ⟨w.heap.size, 21, none⟩ = some (.string (mkS target)) := H3.out.2.2.1.target); clear a3 b3 z3 q2)
      | (rw [HW.out]; refine wpList_alloc_rc rfl rfl ?_; intro w2 a2 b2 z2; have H2 := Lib.hid (And.intro a2 (And.intro (HA.out.1.later b2 (Nat.le_refl _)) (HA.out.2.trans (b2.mono HA.out.2.size)))); clear a2 b2 z2))
    exact bodyPost_ret (results_cell_row rfl _ _ W.heap.size 28 _ (0, 0) _ rfl H6.out.1.1 Tryz.underlying28 rfl (rc_size H6.out.1.2 _ _ _)) rfl ⟨none, 0, 0, rfl, .inl ⟨rfl, rfl, rfl, rfl⟩, H6.out.2⟩
  · rw [if_neg h5]
    obtain ⟨name, kind, cls, ttl, v6, adr, target, data⟩ := r
    dsimp only at h1 h28 h5 ⊢
    go_enter Tryz.func63, Tryz.ntmps63
    go_wp2_with (first
      | (refine wpList_store_rc rfl (.tmp 2) (.tmp 25) rfl ⟨[], 0, 0, 0, false, zero16, [], data⟩ A n c rfl rfl rfl H5.out.1 ?_; intro w6 a6 o6 z6 g6; have H6 := Lib.hid (And.intro a6 (g6 w.heap.size w hle H5.out.2.2)); clear a6 o6 z6 g6)
      | (refine wpList_load_rc rfl (.tmp 3) rfl rfl H5.out.2.1 ?_)
      | (refine wpList_putData_rc rfl (.tmp 24) (.tmp 23) rfl data A n c rfl rfl H3.out.2.1 ?_; intro w5 a5 o5 z5 g5; have H5 := Lib.hid (And.intro (H3.out.1.same (o5 _ (Nat.ne_of_lt H2.out.1.lt))) (And.intro (show RcBox w5 w2.heap.size ⟨[], 0, 0, 0, false, zero16, [], data⟩ A n c from a5) (g5 w.heap.size w H2.out.2.2.size H3.out.2.2.2))); clear a5 o5 z5 g5)
      | (have q2 := H2.out.2.2; refine wpList_alloc_rc rfl rfl ?_; intro w3 a3 b3 z3; have H3 := Lib.hid (And.intro (H2.out.1.later b3 (Nat.le_refl _)) (And.intro a3 (And.intro (H2.out.2.1.later b3 (Nat.le_refl _)) (q2.trans (b3.mono q2.size))))); (have e1 : w3.cell? ⟨w.heap.size, 1, none⟩ = some (.int .i64 kind) := H3.out.2.2.1.kind); (have e22 : w3.cell? ⟨w.heap.size, 22, none⟩ = some (.slice A n c) := H3.out.2.2.1.data); clear a3 b3 z3 q2)
      | (rw [HW.out]; refine wpList_alloc_rc rfl rfl ?_; intro w2 a2 b2 z2; have H2 := Lib.hid (And.intro a2 (And.intro (HA.out.1.later b2 (Nat.le_refl _)) (HA.out.2.trans (b2.mono HA.out.2.size)))); clear a2 b2 z2))
    exact bodyPost_ret (results_cell_row rfl _ _ W.heap.size 28 _ (0, 0) _ rfl H6.out.1.1 Tryz.underlying28 rfl (rc_size H6.out.1.2 _ _ _)) rfl ⟨A, n, c, rfl, .inr ⟨rfl, rfl, rfl, rfl⟩, H6.out.2⟩
set_option maxHeartbeats 4000000 in
theorem alike_any {r s : Rc} (hr : r.ok) (hs : s.ok) {A B : Option Addr} {n c m d : Nat} {w : World} (hb : Bs w A n c r.data) (hb2 : Bs w B m d s.data) : Calls Tryz.prog 62 #[.agg (rcv r A n c), .agg (rcv s B m d)] w fun e w' => e = .returned (.bool (decide (alikeV r s))) ∧ Below w.heap.size w w' := by
  have a1 := RcBox.new w hr A n c
  have b1 : Below w.heap.size w (w.alloc (.cells (rcv r A n c) 28)) := (Below.refl _ _).alloc (Nat.le_refl _) _
  have a2 := RcBox.new (w.alloc (.cells (rcv r A n c) 28)) hs B m d
  rw [World.size_alloc] at a2
  have b2 : Below (w.heap.size + 1) (w.alloc (.cells (rcv r A n c) 28)) ((w.alloc (.cells (rcv r A n c) 28)).alloc (.cells (rcv s B m d) 28)) := (Below.refl _ _).alloc (by simp) _
  have hA := And.intro (a1.later b2 (by simp)) (And.intro a2 (b1.trans (b2.mono (by omega))))
  obtain ⟨W, hW⟩ : ∃ W, (w.alloc (.cells (rcv r A n c) 28)).alloc (.cells (rcv s B m d) 28) = W := ⟨_, rfl⟩
  rw [hW] at hA
  have ke := Lib.hid (equal_any (hb.later hA.2.2 (Nat.le_refl _)) (hb2.later hA.2.2 (Nat.le_refl _)))
  have e1 := hA.1.target
  have e2 := hA.1.data
  have e3 := hA.2.1.target
  have e4 := hA.2.1.data
  have HA := Lib.hid hA
  have HW := Lib.hid hW
  have heq := eql_ad r.v6 s.v6 hr hs
  have hta := mkS_eq r.target s.target
  clear a1 a2 b1 b2 hA hW hb hb2
  unfold alikeV
  by_cases h1 : r.v6 = s.v6 ∧ r.adr = s.adr
  · rw [show ((r.v6 == s.v6) && (r.adr == s.adr)) = true by rw [h1.1, h1.2, beq_self_eq_true, beq_self_eq_true]; rfl] at heq
    by_cases h2 : r.target = s.target
    · rw [decide_eq_true h2] at hta
      have hdec : decide ((r.v6 = s.v6 ∧ r.adr = s.adr) ∧ r.target = s.target ∧ r.data = s.data) = decide (r.data = s.data) := by
        by_cases h3 : r.data = s.data
        · rw [decide_eq_true h3, decide_eq_true (And.intro h1 (And.intro h2 h3))]
        · rw [decide_eq_false h3, decide_eq_false (fun h => h3 h.2.2)]
      rw [hdec]
      generalize decide (r.data = s.data) = b at ke ⊢
      clear hdec h1 h2
      go_enter Tryz.func62, Tryz.ntmps62
      go_wp2_with (first
        | (rw [HW.out]; refine wpList_load_rcAd rfl (.tmp 5) rfl rfl HA.out.1 ?_)
        | (refine wpList_load_rcAd rfl (.tmp 7) rfl rfl HA.out.2.1 ?_))
      refine ke.out.mono ?_
      rintro e w' ⟨rfl, rfl⟩
      go_wp2_with fail
      go_ret
      exact ⟨rfl, HA.out.2.2⟩
    · rw [decide_eq_false h2] at hta
      rw [decide_eq_false (show ¬ ((r.v6 = s.v6 ∧ r.adr = s.adr) ∧ r.target = s.target ∧ r.data = s.data) from fun h => h2 h.2.1)]
      clear h1 h2
      go_enter Tryz.func62, Tryz.ntmps62
      go_wp2_with (first
        | (rw [HW.out]; refine wpList_load_rcAd rfl (.tmp 5) rfl rfl HA.out.1 ?_)
        | (refine wpList_load_rcAd rfl (.tmp 7) rfl rfl HA.out.2.1 ?_))
      go_ret
      exact ⟨rfl, HA.out.2.2⟩
  · have hf : ((r.v6 == s.v6) && (r.adr == s.adr)) = false := by
      cases hv : (r.v6 == s.v6) && (r.adr == s.adr) with
      | false => rfl
      | true =>
        rw [Bool.and_eq_true, beq_iff_eq, beq_iff_eq] at hv
        exact absurd hv h1
    rw [hf] at heq
    rw [decide_eq_false (show ¬ ((r.v6 = s.v6 ∧ r.adr = s.adr) ∧ r.target = s.target ∧ r.data = s.data) from fun h => h1 h.1)]
    clear h1 hf
    go_enter Tryz.func62, Tryz.ntmps62
    go_wp2_with (first
      | (rw [HW.out]; refine wpList_load_rcAd rfl (.tmp 5) rfl rfl HA.out.1 ?_)
      | (refine wpList_load_rcAd rfl (.tmp 7) rfl rfl HA.out.2.1 ?_))
    go_ret
    exact ⟨rfl, HA.out.2.2⟩
end Go.Proofs.YtpojiimcdknafaaGreatDoor

namespace Go.Proofs.YtpojiimcdknafaaGreatDoor
open Go.RowKit
set_option maxRecDepth 100000

set_option maxHeartbeats 8000000 in
theorem rightR_any {r : Rc} (hk : r.ok) {A : Option Addr} {n c : Nat} {w : World} (hb : Bs w A n c r.data) (hn : r.name.length ≤ 1000000) (ht : r.target.length ≤ 1000000) (hE : Env w) : Calls Tryz.prog 21 #[.agg (rcv r A n c)] w fun e w' => e = .returned (.bool (decide (rightR r))) ∧ Below w.heap.size w w' := by
  have a1 := RcBox.new w hk A n c
  have b1 : Below w.heap.size w (w.alloc (.cells (rcv r A n c) 28)) := (Below.refl _ _).alloc (Nat.le_refl _) _
  obtain ⟨W, hW⟩ : ∃ W, w.alloc (.cells (rcv r A n c) 28) = W := ⟨_, rfl⟩
  rw [hW] at a1 b1
  have HA := Lib.hid (And.intro a1 b1)
  have HW := Lib.hid hW
  have HB := Lib.hid (And.intro hb hE)
  have d21 : ∀ w', Below W.heap.size W w' → w'.cell? ⟨w.heap.size, 21, none⟩ = some (.string (mkS r.target)) := fun w' h => (HA.out.1.later h (Nat.le_refl _)).target
  have d22 : ∀ w', Below W.heap.size W w' → w'.cell? ⟨w.heap.size, 22, none⟩ = some (.slice A n c) := fun w' h => (HA.out.1.later h (Nat.le_refl _)).data
  have KQ := fun w1 (g : Below W.heap.size W w1) => rightQ_any r.asks hn (hE.later (HA.out.2.trans (g.mono HA.out.2.size)) (Nat.le_refl _))
  have KT := fun w1 (g : Below W.heap.size W w1) => right_any (mkS r.target) (by rw [mkS_size]; exact ht) (hE.later (HA.out.2.trans (g.mono HA.out.2.size)) (Nat.le_refl _))
  rw [mkS_data] at KT
  have KA := fun w1 => Right_any r.v6 r.adr hk w1
  rw [rightv_dec r.v6 hk] at KA
  have hlen := hb.len
  clear a1 b1 hW hb hE
  have HK := Lib.hid hk
  unfold rightR
  by_cases h0 : rightQ r.asks
  case neg =>
    rw [decide_eq_false (show ¬ (rightQ r.asks ∧ rightA r.v6 r.adr ∧ rightN r.target ∧ r.data.length ≤ 1000 ∧ alikeV r (bareV r)) from fun h => h0 h.1)]
    rw [decide_eq_false h0] at KQ
    have KQ := Lib.hid KQ
    have KA := Lib.hid KA
    have KT := Lib.hid KT
    go_enter Tryz.func21, Tryz.ntmps21
    go_wp2_with fail
    rw [HW.out]
    have hS : Below W.heap.size W W.drew := (Below.refl _ _).drew
    refine rg_begin (fun w' => Below W.heap.size W w') 26 (by kernel_rfl) rfl ?_
    refine rg_load 0 rfl (by kernel_rfl) (by kernel_rfl) (by kernel_rfl) (w.heap.size) (0) ((rcv r A n c)) (fun _ _ _ h => h) (by rfl) 28 (.tmp 1) rfl rfl hS (fun w2 h2 => (RcBox.later HA.out.1 h2 (Nat.le_refl _)).range) Tryz.underlying28 rfl (rc_size HK.out A n c) ?_
    simp only [Act.put, List.setIfInBounds_toArray, List.set_cons_zero, List.set_cons_succ]
    refine rg_step 1 rfl (by kernel_rfl) (by rfl) (fun K hK => ?_)
    go_simp
    refine (asked_any HK.out A n c _).mono ?_
    rintro e w1 ⟨rfl, g1⟩
    replace hS := hS.trans (g1.mono hS.size)
    clear g1
    refine hK.out _ _ hS ?_
    clear hK K
    try simp only [Act.put, List.setIfInBounds_toArray, List.set_cons_zero, List.set_cons_succ]
    refine rg_step 2 rfl (by kernel_rfl) (by rfl) (fun K hK => ?_)
    go_simp
    refine (KQ.out _ hS).mono ?_
    rintro e w2 ⟨rfl, g2⟩
    replace hS := hS.trans (g2.mono hS.size)
    clear g2
    refine hK.out _ _ hS ?_
    clear hK K
    try simp only [Act.put, List.setIfInBounds_toArray, List.set_cons_zero, List.set_cons_succ]
    refine rg_take 3 (v := ?rv1) rfl (by kernel_rfl) (by kernel_rfl) (by kernel_rfl) (fun _ _ _ h => h) (by rfl) hS (fun w2 hw2 => ?ry1) ?rr1
    case ry1 => ((try dsimp only at hw2); go_simp <;> with_reducible rfl)
    simp only [Act.put, List.setIfInBounds_toArray, List.set_cons_zero, List.set_cons_succ]
    refine rg_skip 4 rfl (by kernel_rfl) (by kernel_rfl) (by kernel_rfl) (fun _ _ _ h => h) (by rfl) hS ?_
    simp only [Act.put, List.setIfInBounds_toArray, List.set_cons_zero, List.set_cons_succ]
    refine rg_skip 5 rfl (by kernel_rfl) (by kernel_rfl) (by kernel_rfl) (fun _ _ _ h => h) (by rfl) hS ?_
    simp only [Act.put, List.setIfInBounds_toArray, List.set_cons_zero, List.set_cons_succ]
    refine rg_skip 6 rfl (by kernel_rfl) (by kernel_rfl) (by kernel_rfl) (fun _ _ _ h => h) (by rfl) hS ?_
    simp only [Act.put, List.setIfInBounds_toArray, List.set_cons_zero, List.set_cons_succ]
    refine rg_take 7 (v := ?rv2) rfl (by kernel_rfl) (by kernel_rfl) (by kernel_rfl) (fun _ _ _ h => h) (by rfl) hS (fun w2 hw2 => ?ry2) ?rr2
    case ry2 => ((try dsimp only at hw2); go_simp <;> with_reducible rfl)
    simp only [Act.put, List.setIfInBounds_toArray, List.set_cons_zero, List.set_cons_succ]
    refine rg_take 8 (v := ?rv3) rfl (by kernel_rfl) (by kernel_rfl) (by kernel_rfl) (fun _ _ _ h => h) (by rfl) hS (fun w2 hw2 => ?ry3) ?rr3
    case ry3 => ((try dsimp only at hw2); go_simp <;> with_reducible rfl)
    simp only [Act.put, List.setIfInBounds_toArray, List.set_cons_zero, List.set_cons_succ]
    refine rg_skip 9 rfl (by kernel_rfl) (by kernel_rfl) (by kernel_rfl) (fun _ _ _ h => h) (by rfl) hS ?_
    simp only [Act.put, List.setIfInBounds_toArray, List.set_cons_zero, List.set_cons_succ]
    refine rg_skip 10 rfl (by kernel_rfl) (by kernel_rfl) (by kernel_rfl) (fun _ _ _ h => h) (by rfl) hS ?_
    simp only [Act.put, List.setIfInBounds_toArray, List.set_cons_zero, List.set_cons_succ]
    refine rg_skip 11 rfl (by kernel_rfl) (by kernel_rfl) (by kernel_rfl) (fun _ _ _ h => h) (by rfl) hS ?_
    simp only [Act.put, List.setIfInBounds_toArray, List.set_cons_zero, List.set_cons_succ]
    refine rg_take 12 (v := ?rv4) rfl (by kernel_rfl) (by kernel_rfl) (by kernel_rfl) (fun _ _ _ h => h) (by rfl) hS (fun w2 hw2 => ?ry4) ?rr4
    case ry4 => ((try dsimp only at hw2); go_simp <;> with_reducible rfl)
    simp only [Act.put, List.setIfInBounds_toArray, List.set_cons_zero, List.set_cons_succ]
    refine rg_take 13 (v := ?rv5) rfl (by kernel_rfl) (by kernel_rfl) (by kernel_rfl) (fun _ _ _ h => h) (by rfl) hS (fun w2 hw2 => ?ry5) ?rr5
    case ry5 => ((try dsimp only at hw2); go_simp <;> with_reducible rfl)
    simp only [Act.put, List.setIfInBounds_toArray, List.set_cons_zero, List.set_cons_succ]
    refine rg_skip 14 rfl (by kernel_rfl) (by kernel_rfl) (by kernel_rfl) (fun _ _ _ h => h) (by rfl) hS ?_
    simp only [Act.put, List.setIfInBounds_toArray, List.set_cons_zero, List.set_cons_succ]
    refine rg_skip 15 rfl (by kernel_rfl) (by kernel_rfl) (by kernel_rfl) (fun _ _ _ h => h) (by rfl) hS ?_
    simp only [Act.put, List.setIfInBounds_toArray, List.set_cons_zero, List.set_cons_succ]
    refine rg_skip 16 rfl (by kernel_rfl) (by kernel_rfl) (by kernel_rfl) (fun _ _ _ h => h) (by rfl) hS ?_
    simp only [Act.put, List.setIfInBounds_toArray, List.set_cons_zero, List.set_cons_succ]
    refine rg_skip 17 rfl (by kernel_rfl) (by kernel_rfl) (by kernel_rfl) (fun _ _ _ h => h) (by rfl) hS ?_
    simp only [Act.put, List.setIfInBounds_toArray, List.set_cons_zero, List.set_cons_succ]
    refine rg_take 18 (v := ?rv6) rfl (by kernel_rfl) (by kernel_rfl) (by kernel_rfl) (fun _ _ _ h => h) (by rfl) hS (fun w2 hw2 => ?ry6) ?rr6
    case ry6 => ((try dsimp only at hw2); go_simp <;> with_reducible rfl)
    simp only [Act.put, List.setIfInBounds_toArray, List.set_cons_zero, List.set_cons_succ]
    refine rg_take 19 (v := ?rv7) rfl (by kernel_rfl) (by kernel_rfl) (by kernel_rfl) (fun _ _ _ h => h) (by rfl) hS (fun w2 hw2 => ?ry7) ?rr7
    case ry7 => ((try dsimp only at hw2); go_simp <;> with_reducible rfl)
    simp only [Act.put, List.setIfInBounds_toArray, List.set_cons_zero, List.set_cons_succ]
    refine rg_skip 20 rfl (by kernel_rfl) (by kernel_rfl) (by kernel_rfl) (fun _ _ _ h => h) (by rfl) hS ?_
    simp only [Act.put, List.setIfInBounds_toArray, List.set_cons_zero, List.set_cons_succ]
    refine rg_skip 21 rfl (by kernel_rfl) (by kernel_rfl) (by kernel_rfl) (fun _ _ _ h => h) (by rfl) hS ?_
    simp only [Act.put, List.setIfInBounds_toArray, List.set_cons_zero, List.set_cons_succ]
    refine rg_skip 22 rfl (by kernel_rfl) (by kernel_rfl) (by kernel_rfl) (fun _ _ _ h => h) (by rfl) hS ?_
    simp only [Act.put, List.setIfInBounds_toArray, List.set_cons_zero, List.set_cons_succ]
    refine rg_skip 23 rfl (by kernel_rfl) (by kernel_rfl) (by kernel_rfl) (fun _ _ _ h => h) (by rfl) hS ?_
    simp only [Act.put, List.setIfInBounds_toArray, List.set_cons_zero, List.set_cons_succ]
    refine rg_take 24 (v := ?rv8) rfl (by kernel_rfl) (by kernel_rfl) (by kernel_rfl) (fun _ _ _ h => h) (by rfl) hS (fun w2 hw2 => ?ry8) ?rr8
    case ry8 => ((try dsimp only at hw2); go_simp <;> with_reducible rfl)
    simp only [Act.put, List.setIfInBounds_toArray, List.set_cons_zero, List.set_cons_succ]
    refine rg_take 25 (v := ?rv9) rfl (by kernel_rfl) (by kernel_rfl) (by kernel_rfl) (fun _ _ _ h => h) (by rfl) hS (fun w2 hw2 => ?ry9) ?rr9
    case ry9 => ((try dsimp only at hw2); go_simp <;> with_reducible rfl)
    simp only [Act.put, List.setIfInBounds_toArray, List.set_cons_zero, List.set_cons_succ]
    refine rg_done (by kernel_rfl) ?_
    have HS := Lib.hid (HA.out.2.trans (hS.mono HA.out.2.size))
    clear hS
    go_wp2_with fail
    go_ret
    exact ⟨rfl, HS.out⟩
  by_cases h1 : rightA r.v6 r.adr
  case neg =>
    rw [decide_eq_false (show ¬ (rightQ r.asks ∧ rightA r.v6 r.adr ∧ rightN r.target ∧ r.data.length ≤ 1000 ∧ alikeV r (bareV r)) from fun h => h1 h.2.1)]
    rw [decide_eq_true h0] at KQ
    rw [decide_eq_false h1] at KA
    have KQ := Lib.hid KQ
    have KA := Lib.hid KA
    have KT := Lib.hid KT
    go_enter Tryz.func21, Tryz.ntmps21
    go_wp2_with fail
    rw [HW.out]
    have hS : Below W.heap.size W W.drew := (Below.refl _ _).drew
    refine rg_begin (fun w' => Below W.heap.size W w') 26 (by kernel_rfl) rfl ?_
    refine rg_load 0 rfl (by kernel_rfl) (by kernel_rfl) (by kernel_rfl) (w.heap.size) (0) ((rcv r A n c)) (fun _ _ _ h => h) (by rfl) 28 (.tmp 1) rfl rfl hS (fun w2 h2 => (RcBox.later HA.out.1 h2 (Nat.le_refl _)).range) Tryz.underlying28 rfl (rc_size HK.out A n c) ?_
    simp only [Act.put, List.setIfInBounds_toArray, List.set_cons_zero, List.set_cons_succ]
    refine rg_step 1 rfl (by kernel_rfl) (by rfl) (fun K hK => ?_)
    go_simp
    refine (asked_any HK.out A n c _).mono ?_
    rintro e w1 ⟨rfl, g1⟩
    replace hS := hS.trans (g1.mono hS.size)
    clear g1
    refine hK.out _ _ hS ?_
    clear hK K
    try simp only [Act.put, List.setIfInBounds_toArray, List.set_cons_zero, List.set_cons_succ]
    refine rg_step 2 rfl (by kernel_rfl) (by rfl) (fun K hK => ?_)
    go_simp
    refine (KQ.out _ hS).mono ?_
    rintro e w2 ⟨rfl, g2⟩
    replace hS := hS.trans (g2.mono hS.size)
    clear g2
    refine hK.out _ _ hS ?_
    clear hK K
    try simp only [Act.put, List.setIfInBounds_toArray, List.set_cons_zero, List.set_cons_succ]
    refine rg_take 3 (v := ?rv10) rfl (by kernel_rfl) (by kernel_rfl) (by kernel_rfl) (fun _ _ _ h => h) (by rfl) hS (fun w2 hw2 => ?ry10) ?rr10
    case ry10 => ((try dsimp only at hw2); go_simp <;> with_reducible rfl)
    simp only [Act.put, List.setIfInBounds_toArray, List.set_cons_zero, List.set_cons_succ]
    refine rg_take 4 (v := ?rv11) rfl (by kernel_rfl) (by kernel_rfl) (by kernel_rfl) (fun _ _ _ h => h) (by rfl) hS (fun w2 hw2 => ?ry11) ?rr11
    case ry11 => ((try dsimp only at hw2); go_simp <;> with_reducible rfl)
    simp only [Act.put, List.setIfInBounds_toArray, List.set_cons_zero, List.set_cons_succ]
    refine rg_load 5 rfl (by kernel_rfl) (by kernel_rfl) (by kernel_rfl) (w.heap.size) (4) ((adv r.v6 r.adr)) (fun _ _ _ h => h) (by rfl) 26 (.tmp 7) rfl rfl hS (fun w2 h2 => (RcBox.later HA.out.1 h2 (Nat.le_refl _)).adrR) Tryz.underlying26 rfl (ad_size r.v6 HK.out) ?_
    simp only [Act.put, List.setIfInBounds_toArray, List.set_cons_zero, List.set_cons_succ]
    refine rg_step 6 rfl (by kernel_rfl) (by rfl) (fun K hK => ?_)
    go_simp
    refine (KA.out _).mono ?_
    rintro e w3 ⟨rfl, g3⟩
    replace hS := hS.trans (g3.mono hS.size)
    clear g3
    refine hK.out _ _ hS ?_
    clear hK K
    try simp only [Act.put, List.setIfInBounds_toArray, List.set_cons_zero, List.set_cons_succ]
    refine rg_take 7 (v := ?rv12) rfl (by kernel_rfl) (by kernel_rfl) (by kernel_rfl) (fun _ _ _ h => h) (by rfl) hS (fun w2 hw2 => ?ry12) ?rr12
    case ry12 => ((try dsimp only at hw2); go_simp <;> with_reducible rfl)
    simp only [Act.put, List.setIfInBounds_toArray, List.set_cons_zero, List.set_cons_succ]
    refine rg_take 8 (v := ?rv13) rfl (by kernel_rfl) (by kernel_rfl) (by kernel_rfl) (fun _ _ _ h => h) (by rfl) hS (fun w2 hw2 => ?ry13) ?rr13
    case ry13 => ((try dsimp only at hw2); go_simp <;> with_reducible rfl)
    simp only [Act.put, List.setIfInBounds_toArray, List.set_cons_zero, List.set_cons_succ]
    refine rg_skip 9 rfl (by kernel_rfl) (by kernel_rfl) (by kernel_rfl) (fun _ _ _ h => h) (by rfl) hS ?_
    simp only [Act.put, List.setIfInBounds_toArray, List.set_cons_zero, List.set_cons_succ]
    refine rg_skip 10 rfl (by kernel_rfl) (by kernel_rfl) (by kernel_rfl) (fun _ _ _ h => h) (by rfl) hS ?_
    simp only [Act.put, List.setIfInBounds_toArray, List.set_cons_zero, List.set_cons_succ]
    refine rg_skip 11 rfl (by kernel_rfl) (by kernel_rfl) (by kernel_rfl) (fun _ _ _ h => h) (by rfl) hS ?_
    simp only [Act.put, List.setIfInBounds_toArray, List.set_cons_zero, List.set_cons_succ]
    refine rg_take 12 (v := ?rv14) rfl (by kernel_rfl) (by kernel_rfl) (by kernel_rfl) (fun _ _ _ h => h) (by rfl) hS (fun w2 hw2 => ?ry14) ?rr14
    case ry14 => ((try dsimp only at hw2); go_simp <;> with_reducible rfl)
    simp only [Act.put, List.setIfInBounds_toArray, List.set_cons_zero, List.set_cons_succ]
    refine rg_take 13 (v := ?rv15) rfl (by kernel_rfl) (by kernel_rfl) (by kernel_rfl) (fun _ _ _ h => h) (by rfl) hS (fun w2 hw2 => ?ry15) ?rr15
    case ry15 => ((try dsimp only at hw2); go_simp <;> with_reducible rfl)
    simp only [Act.put, List.setIfInBounds_toArray, List.set_cons_zero, List.set_cons_succ]
    refine rg_skip 14 rfl (by kernel_rfl) (by kernel_rfl) (by kernel_rfl) (fun _ _ _ h => h) (by rfl) hS ?_
    simp only [Act.put, List.setIfInBounds_toArray, List.set_cons_zero, List.set_cons_succ]
    refine rg_skip 15 rfl (by kernel_rfl) (by kernel_rfl) (by kernel_rfl) (fun _ _ _ h => h) (by rfl) hS ?_
    simp only [Act.put, List.setIfInBounds_toArray, List.set_cons_zero, List.set_cons_succ]
    refine rg_skip 16 rfl (by kernel_rfl) (by kernel_rfl) (by kernel_rfl) (fun _ _ _ h => h) (by rfl) hS ?_
    simp only [Act.put, List.setIfInBounds_toArray, List.set_cons_zero, List.set_cons_succ]
    refine rg_skip 17 rfl (by kernel_rfl) (by kernel_rfl) (by kernel_rfl) (fun _ _ _ h => h) (by rfl) hS ?_
    simp only [Act.put, List.setIfInBounds_toArray, List.set_cons_zero, List.set_cons_succ]
    refine rg_take 18 (v := ?rv16) rfl (by kernel_rfl) (by kernel_rfl) (by kernel_rfl) (fun _ _ _ h => h) (by rfl) hS (fun w2 hw2 => ?ry16) ?rr16
    case ry16 => ((try dsimp only at hw2); go_simp <;> with_reducible rfl)
    simp only [Act.put, List.setIfInBounds_toArray, List.set_cons_zero, List.set_cons_succ]
    refine rg_take 19 (v := ?rv17) rfl (by kernel_rfl) (by kernel_rfl) (by kernel_rfl) (fun _ _ _ h => h) (by rfl) hS (fun w2 hw2 => ?ry17) ?rr17
    case ry17 => ((try dsimp only at hw2); go_simp <;> with_reducible rfl)
    simp only [Act.put, List.setIfInBounds_toArray, List.set_cons_zero, List.set_cons_succ]
    refine rg_skip 20 rfl (by kernel_rfl) (by kernel_rfl) (by kernel_rfl) (fun _ _ _ h => h) (by rfl) hS ?_
    simp only [Act.put, List.setIfInBounds_toArray, List.set_cons_zero, List.set_cons_succ]
    refine rg_skip 21 rfl (by kernel_rfl) (by kernel_rfl) (by kernel_rfl) (fun _ _ _ h => h) (by rfl) hS ?_
    simp only [Act.put, List.setIfInBounds_toArray, List.set_cons_zero, List.set_cons_succ]
    refine rg_skip 22 rfl (by kernel_rfl) (by kernel_rfl) (by kernel_rfl) (fun _ _ _ h => h) (by rfl) hS ?_
    simp only [Act.put, List.setIfInBounds_toArray, List.set_cons_zero, List.set_cons_succ]
    refine rg_skip 23 rfl (by kernel_rfl) (by kernel_rfl) (by kernel_rfl) (fun _ _ _ h => h) (by rfl) hS ?_
    simp only [Act.put, List.setIfInBounds_toArray, List.set_cons_zero, List.set_cons_succ]
    refine rg_take 24 (v := ?rv18) rfl (by kernel_rfl) (by kernel_rfl) (by kernel_rfl) (fun _ _ _ h => h) (by rfl) hS (fun w2 hw2 => ?ry18) ?rr18
    case ry18 => ((try dsimp only at hw2); go_simp <;> with_reducible rfl)
    simp only [Act.put, List.setIfInBounds_toArray, List.set_cons_zero, List.set_cons_succ]
    refine rg_take 25 (v := ?rv19) rfl (by kernel_rfl) (by kernel_rfl) (by kernel_rfl) (fun _ _ _ h => h) (by rfl) hS (fun w2 hw2 => ?ry19) ?rr19
    case ry19 => ((try dsimp only at hw2); go_simp <;> with_reducible rfl)
    simp only [Act.put, List.setIfInBounds_toArray, List.set_cons_zero, List.set_cons_succ]
    refine rg_done (by kernel_rfl) ?_
    have HS := Lib.hid (HA.out.2.trans (hS.mono HA.out.2.size))
    clear hS
    go_wp2_with fail
    go_ret
    exact ⟨rfl, HS.out⟩
  by_cases h2 : rightN r.target
  case neg =>
    rw [decide_eq_false (show ¬ (rightQ r.asks ∧ rightA r.v6 r.adr ∧ rightN r.target ∧ r.data.length ≤ 1000 ∧ alikeV r (bareV r)) from fun h => h2 h.2.2.1)]
    rw [decide_eq_true h0] at KQ
    rw [decide_eq_true h1] at KA
    rw [decide_eq_false h2] at KT
    have KQ := Lib.hid KQ
    have KA := Lib.hid KA
    have KT := Lib.hid KT
    go_enter Tryz.func21, Tryz.ntmps21
    go_wp2_with fail
    rw [HW.out]
    have hS : Below W.heap.size W W.drew := (Below.refl _ _).drew
    refine rg_begin (fun w' => Below W.heap.size W w') 26 (by kernel_rfl) rfl ?_
    refine rg_load 0 rfl (by kernel_rfl) (by kernel_rfl) (by kernel_rfl) (w.heap.size) (0) ((rcv r A n c)) (fun _ _ _ h => h) (by rfl) 28 (.tmp 1) rfl rfl hS (fun w2 h2 => (RcBox.later HA.out.1 h2 (Nat.le_refl _)).range) Tryz.underlying28 rfl (rc_size HK.out A n c) ?_
    simp only [Act.put, List.setIfInBounds_toArray, List.set_cons_zero, List.set_cons_succ]
    refine rg_step 1 rfl (by kernel_rfl) (by rfl) (fun K hK => ?_)
    go_simp
    refine (asked_any HK.out A n c _).mono ?_
    rintro e w1 ⟨rfl, g1⟩
    replace hS := hS.trans (g1.mono hS.size)
    clear g1
    refine hK.out _ _ hS ?_
    clear hK K
    try simp only [Act.put, List.setIfInBounds_toArray, List.set_cons_zero, List.set_cons_succ]
    refine rg_step 2 rfl (by kernel_rfl) (by rfl) (fun K hK => ?_)
    go_simp
    refine (KQ.out _ hS).mono ?_
    rintro e w2 ⟨rfl, g2⟩
    replace hS := hS.trans (g2.mono hS.size)
    clear g2
    refine hK.out _ _ hS ?_
    clear hK K
    try simp only [Act.put, List.setIfInBounds_toArray, List.set_cons_zero, List.set_cons_succ]
    refine rg_take 3 (v := ?rv20) rfl (by kernel_rfl) (by kernel_rfl) (by kernel_rfl) (fun _ _ _ h => h) (by rfl) hS (fun w2 hw2 => ?ry20) ?rr20
    case ry20 => ((try dsimp only at hw2); go_simp <;> with_reducible rfl)
    simp only [Act.put, List.setIfInBounds_toArray, List.set_cons_zero, List.set_cons_succ]
    refine rg_take 4 (v := ?rv21) rfl (by kernel_rfl) (by kernel_rfl) (by kernel_rfl) (fun _ _ _ h => h) (by rfl) hS (fun w2 hw2 => ?ry21) ?rr21
    case ry21 => ((try dsimp only at hw2); go_simp <;> with_reducible rfl)
    simp only [Act.put, List.setIfInBounds_toArray, List.set_cons_zero, List.set_cons_succ]
    refine rg_load 5 rfl (by kernel_rfl) (by kernel_rfl) (by kernel_rfl) (w.heap.size) (4) ((adv r.v6 r.adr)) (fun _ _ _ h => h) (by rfl) 26 (.tmp 7) rfl rfl hS (fun w2 h2 => (RcBox.later HA.out.1 h2 (Nat.le_refl _)).adrR) Tryz.underlying26 rfl (ad_size r.v6 HK.out) ?_
    simp only [Act.put, List.setIfInBounds_toArray, List.set_cons_zero, List.set_cons_succ]
    refine rg_step 6 rfl (by kernel_rfl) (by rfl) (fun K hK => ?_)
    go_simp
    refine (KA.out _).mono ?_
    rintro e w3 ⟨rfl, g3⟩
    replace hS := hS.trans (g3.mono hS.size)
    clear g3
    refine hK.out _ _ hS ?_
    clear hK K
    try simp only [Act.put, List.setIfInBounds_toArray, List.set_cons_zero, List.set_cons_succ]
    refine rg_take 7 (v := ?rv22) rfl (by kernel_rfl) (by kernel_rfl) (by kernel_rfl) (fun _ _ _ h => h) (by rfl) hS (fun w2 hw2 => ?ry22) ?rr22
    case ry22 => ((try dsimp only at hw2); go_simp <;> with_reducible rfl)
    simp only [Act.put, List.setIfInBounds_toArray, List.set_cons_zero, List.set_cons_succ]
    refine rg_take 8 (v := ?rv23) rfl (by kernel_rfl) (by kernel_rfl) (by kernel_rfl) (fun _ _ _ h => h) (by rfl) hS (fun w2 hw2 => ?ry23) ?rr23
    case ry23 => ((try dsimp only at hw2); go_simp <;> with_reducible rfl)
    simp only [Act.put, List.setIfInBounds_toArray, List.set_cons_zero, List.set_cons_succ]
    refine rg_take 9 (v := ?rv24) rfl (by kernel_rfl) (by kernel_rfl) (by kernel_rfl) (fun _ _ _ h => h) (by rfl) hS (fun w2 hw2 => ?ry24) ?rr24
    case ry24 => ((try dsimp only at hw2); go_simp <;> with_reducible rfl)
    simp only [Act.put, List.setIfInBounds_toArray, List.set_cons_zero, List.set_cons_succ]
    refine rg_take 10 (v := ?rv25) rfl (by kernel_rfl) (by kernel_rfl) (by kernel_rfl) (fun _ _ _ h => h) (by rfl) hS (fun w2 hw2 => ?ry25) ?rr25
    case ry25 => ((try dsimp only at hw2); go_simp <;> with_reducible rfl)
    simp only [Act.put, List.setIfInBounds_toArray, List.set_cons_zero, List.set_cons_succ]
    refine rg_step 11 rfl (by kernel_rfl) (by rfl) (fun K hK => ?_)
    go_simp
    refine (KT.out _ hS).mono ?_
    rintro e w4 ⟨rfl, g4⟩
    replace hS := hS.trans (g4.mono hS.size)
    clear g4
    refine hK.out _ _ hS ?_
    clear hK K
    try simp only [Act.put, List.setIfInBounds_toArray, List.set_cons_zero, List.set_cons_succ]
    refine rg_take 12 (v := ?rv26) rfl (by kernel_rfl) (by kernel_rfl) (by kernel_rfl) (fun _ _ _ h => h) (by rfl) hS (fun w2 hw2 => ?ry26) ?rr26
    case ry26 => ((try dsimp only at hw2); go_simp <;> with_reducible rfl)
    simp only [Act.put, List.setIfInBounds_toArray, List.set_cons_zero, List.set_cons_succ]
    refine rg_take 13 (v := ?rv27) rfl (by kernel_rfl) (by kernel_rfl) (by kernel_rfl) (fun _ _ _ h => h) (by rfl) hS (fun w2 hw2 => ?ry27) ?rr27
    case ry27 => ((try dsimp only at hw2); go_simp <;> with_reducible rfl)
    simp only [Act.put, List.setIfInBounds_toArray, List.set_cons_zero, List.set_cons_succ]
    refine rg_skip 14 rfl (by kernel_rfl) (by kernel_rfl) (by kernel_rfl) (fun _ _ _ h => h) (by rfl) hS ?_
    simp only [Act.put, List.setIfInBounds_toArray, List.set_cons_zero, List.set_cons_succ]
    refine rg_skip 15 rfl (by kernel_rfl) (by kernel_rfl) (by kernel_rfl) (fun _ _ _ h => h) (by rfl) hS ?_
    simp only [Act.put, List.setIfInBounds_toArray, List.set_cons_zero, List.set_cons_succ]
    refine rg_skip 16 rfl (by kernel_rfl) (by kernel_rfl) (by kernel_rfl) (fun _ _ _ h => h) (by rfl) hS ?_
    simp only [Act.put, List.setIfInBounds_toArray, List.set_cons_zero, List.set_cons_succ]
    refine rg_skip 17 rfl (by kernel_rfl) (by kernel_rfl) (by kernel_rfl) (fun _ _ _ h => h) (by rfl) hS ?_
    simp only [Act.put, List.setIfInBounds_toArray, List.set_cons_zero, List.set_cons_succ]
    refine rg_take 18 (v := ?rv28) rfl (by kernel_rfl) (by kernel_rfl) (by kernel_rfl) (fun _ _ _ h => h) (by rfl) hS (fun w2 hw2 => ?ry28) ?rr28
    case ry28 => ((try dsimp only at hw2); go_simp <;> with_reducible rfl)
    simp only [Act.put, List.setIfInBounds_toArray, List.set_cons_zero, List.set_cons_succ]
    refine rg_take 19 (v := ?rv29) rfl (by kernel_rfl) (by kernel_rfl) (by kernel_rfl) (fun _ _ _ h => h) (by rfl) hS (fun w2 hw2 => ?ry29) ?rr29
    case ry29 => ((try dsimp only at hw2); go_simp <;> with_reducible rfl)
    simp only [Act.put, List.setIfInBounds_toArray, List.set_cons_zero, List.set_cons_succ]
    refine rg_skip 20 rfl (by kernel_rfl) (by kernel_rfl) (by kernel_rfl) (fun _ _ _ h => h) (by rfl) hS ?_
    simp only [Act.put, List.setIfInBounds_toArray, List.set_cons_zero, List.set_cons_succ]
    refine rg_skip 21 rfl (by kernel_rfl) (by kernel_rfl) (by kernel_rfl) (fun _ _ _ h => h) (by rfl) hS ?_
    simp only [Act.put, List.setIfInBounds_toArray, List.set_cons_zero, List.set_cons_succ]
    refine rg_skip 22 rfl (by kernel_rfl) (by kernel_rfl) (by kernel_rfl) (fun _ _ _ h => h) (by rfl) hS ?_
    simp only [Act.put, List.setIfInBounds_toArray, List.set_cons_zero, List.set_cons_succ]
    refine rg_skip 23 rfl (by kernel_rfl) (by kernel_rfl) (by kernel_rfl) (fun _ _ _ h => h) (by rfl) hS ?_
    simp only [Act.put, List.setIfInBounds_toArray, List.set_cons_zero, List.set_cons_succ]
    refine rg_take 24 (v := ?rv30) rfl (by kernel_rfl) (by kernel_rfl) (by kernel_rfl) (fun _ _ _ h => h) (by rfl) hS (fun w2 hw2 => ?ry30) ?rr30
    case ry30 => ((try dsimp only at hw2); go_simp <;> with_reducible rfl)
    simp only [Act.put, List.setIfInBounds_toArray, List.set_cons_zero, List.set_cons_succ]
    refine rg_take 25 (v := ?rv31) rfl (by kernel_rfl) (by kernel_rfl) (by kernel_rfl) (fun _ _ _ h => h) (by rfl) hS (fun w2 hw2 => ?ry31) ?rr31
    case ry31 => ((try dsimp only at hw2); go_simp <;> with_reducible rfl)
    simp only [Act.put, List.setIfInBounds_toArray, List.set_cons_zero, List.set_cons_succ]
    refine rg_done (by kernel_rfl) ?_
    have HS := Lib.hid (HA.out.2.trans (hS.mono HA.out.2.size))
    clear hS
    go_wp2_with fail
    go_ret
    exact ⟨rfl, HS.out⟩
  by_cases h3 : r.data.length ≤ 1000
  case neg =>
    rw [decide_eq_false (show ¬ (rightQ r.asks ∧ rightA r.v6 r.adr ∧ rightN r.target ∧ r.data.length ≤ 1000 ∧ alikeV r (bareV r)) from fun h => h3 h.2.2.2.1)]
    rw [decide_eq_true h0] at KQ
    rw [decide_eq_true h1] at KA
    rw [decide_eq_true h2] at KT
    have q1000 : decide ((n : Int) ≤ 1000) = false := decide_eq_false (by omega)
    have KQ := Lib.hid KQ
    have KA := Lib.hid KA
    have KT := Lib.hid KT
    go_enter Tryz.func21, Tryz.ntmps21
    go_wp2_with fail
    rw [HW.out]
    have hS : Below W.heap.size W W.drew := (Below.refl _ _).drew
    refine rg_begin (fun w' => Below W.heap.size W w') 26 (by kernel_rfl) rfl ?_
    refine rg_load 0 rfl (by kernel_rfl) (by kernel_rfl) (by kernel_rfl) (w.heap.size) (0) ((rcv r A n c)) (fun _ _ _ h => h) (by rfl) 28 (.tmp 1) rfl rfl hS (fun w2 h2 => (RcBox.later HA.out.1 h2 (Nat.le_refl _)).range) Tryz.underlying28 rfl (rc_size HK.out A n c) ?_
    simp only [Act.put, List.setIfInBounds_toArray, List.set_cons_zero, List.set_cons_succ]
    refine rg_step 1 rfl (by kernel_rfl) (by rfl) (fun K hK => ?_)
    go_simp
    refine (asked_any HK.out A n c _).mono ?_
    rintro e w1 ⟨rfl, g1⟩
    replace hS := hS.trans (g1.mono hS.size)
    clear g1
    refine hK.out _ _ hS ?_
    clear hK K
    try simp only [Act.put, List.setIfInBounds_toArray, List.set_cons_zero, List.set_cons_succ]
    refine rg_step 2 rfl (by kernel_rfl) (by rfl) (fun K hK => ?_)
    go_simp
    refine (KQ.out _ hS).mono ?_
    rintro e w2 ⟨rfl, g2⟩
    replace hS := hS.trans (g2.mono hS.size)
    clear g2
    refine hK.out _ _ hS ?_
    clear hK K
    try simp only [Act.put, List.setIfInBounds_toArray, List.set_cons_zero, List.set_cons_succ]
    refine rg_take 3 (v := ?rv32) rfl (by kernel_rfl) (by kernel_rfl) (by kernel_rfl) (fun _ _ _ h => h) (by rfl) hS (fun w2 hw2 => ?ry32) ?rr32
    case ry32 => ((try dsimp only at hw2); go_simp <;> with_reducible rfl)
    simp only [Act.put, List.setIfInBounds_toArray, List.set_cons_zero, List.set_cons_succ]
    refine rg_take 4 (v := ?rv33) rfl (by kernel_rfl) (by kernel_rfl) (by kernel_rfl) (fun _ _ _ h => h) (by rfl) hS (fun w2 hw2 => ?ry33) ?rr33
    case ry33 => ((try dsimp only at hw2); go_simp <;> with_reducible rfl)
    simp only [Act.put, List.setIfInBounds_toArray, List.set_cons_zero, List.set_cons_succ]
    refine rg_load 5 rfl (by kernel_rfl) (by kernel_rfl) (by kernel_rfl) (w.heap.size) (4) ((adv r.v6 r.adr)) (fun _ _ _ h => h) (by rfl) 26 (.tmp 7) rfl rfl hS (fun w2 h2 => (RcBox.later HA.out.1 h2 (Nat.le_refl _)).adrR) Tryz.underlying26 rfl (ad_size r.v6 HK.out) ?_
    simp only [Act.put, List.setIfInBounds_toArray, List.set_cons_zero, List.set_cons_succ]
    refine rg_step 6 rfl (by kernel_rfl) (by rfl) (fun K hK => ?_)
    go_simp
    refine (KA.out _).mono ?_
    rintro e w3 ⟨rfl, g3⟩
    replace hS := hS.trans (g3.mono hS.size)
    clear g3
    refine hK.out _ _ hS ?_
    clear hK K
    try simp only [Act.put, List.setIfInBounds_toArray, List.set_cons_zero, List.set_cons_succ]
    refine rg_take 7 (v := ?rv34) rfl (by kernel_rfl) (by kernel_rfl) (by kernel_rfl) (fun _ _ _ h => h) (by rfl) hS (fun w2 hw2 => ?ry34) ?rr34
    case ry34 => ((try dsimp only at hw2); go_simp <;> with_reducible rfl)
    simp only [Act.put, List.setIfInBounds_toArray, List.set_cons_zero, List.set_cons_succ]
    refine rg_take 8 (v := ?rv35) rfl (by kernel_rfl) (by kernel_rfl) (by kernel_rfl) (fun _ _ _ h => h) (by rfl) hS (fun w2 hw2 => ?ry35) ?rr35
    case ry35 => ((try dsimp only at hw2); go_simp <;> with_reducible rfl)
    simp only [Act.put, List.setIfInBounds_toArray, List.set_cons_zero, List.set_cons_succ]
    refine rg_take 9 (v := ?rv36) rfl (by kernel_rfl) (by kernel_rfl) (by kernel_rfl) (fun _ _ _ h => h) (by rfl) hS (fun w2 hw2 => ?ry36) ?rr36
    case ry36 => ((try dsimp only at hw2); go_simp <;> with_reducible rfl)
    simp only [Act.put, List.setIfInBounds_toArray, List.set_cons_zero, List.set_cons_succ]
    refine rg_take 10 (v := ?rv37) rfl (by kernel_rfl) (by kernel_rfl) (by kernel_rfl) (fun _ _ _ h => h) (by rfl) hS (fun w2 hw2 => ?ry37) ?rr37
    case ry37 => ((try dsimp only at hw2); go_simp <;> with_reducible rfl)
    simp only [Act.put, List.setIfInBounds_toArray, List.set_cons_zero, List.set_cons_succ]
    refine rg_step 11 rfl (by kernel_rfl) (by rfl) (fun K hK => ?_)
    go_simp
    refine (KT.out _ hS).mono ?_
    rintro e w4 ⟨rfl, g4⟩
    replace hS := hS.trans (g4.mono hS.size)
    clear g4
    refine hK.out _ _ hS ?_
    clear hK K
    try simp only [Act.put, List.setIfInBounds_toArray, List.set_cons_zero, List.set_cons_succ]
    refine rg_take 12 (v := ?rv38) rfl (by kernel_rfl) (by kernel_rfl) (by kernel_rfl) (fun _ _ _ h => h) (by rfl) hS (fun w2 hw2 => ?ry38) ?rr38
    case ry38 => ((try dsimp only at hw2); go_simp <;> with_reducible rfl)
    simp only [Act.put, List.setIfInBounds_toArray, List.set_cons_zero, List.set_cons_succ]
    refine rg_take 13 (v := ?rv39) rfl (by kernel_rfl) (by kernel_rfl) (by kernel_rfl) (fun _ _ _ h => h) (by rfl) hS (fun w2 hw2 => ?ry39) ?rr39
    case ry39 => ((try dsimp only at hw2); go_simp <;> with_reducible rfl)
    simp only [Act.put, List.setIfInBounds_toArray, List.set_cons_zero, List.set_cons_succ]
    refine rg_take 14 (v := ?rv40) rfl (by kernel_rfl) (by kernel_rfl) (by kernel_rfl) (fun _ _ _ h => h) (by rfl) hS (fun w2 hw2 => ?ry40) ?rr40
    case ry40 => ((try dsimp only at hw2); go_simp <;> with_reducible rfl)
    simp only [Act.put, List.setIfInBounds_toArray, List.set_cons_zero, List.set_cons_succ]
    refine rg_take 15 (v := ?rv41) rfl (by kernel_rfl) (by kernel_rfl) (by kernel_rfl) (fun _ _ _ h => h) (by rfl) hS (fun w2 hw2 => ?ry41) ?rr41
    case ry41 => ((try dsimp only at hw2); go_simp <;> with_reducible rfl)
    simp only [Act.put, List.setIfInBounds_toArray, List.set_cons_zero, List.set_cons_succ]
    refine rg_take 16 (v := ?rv42) rfl (by kernel_rfl) (by kernel_rfl) (by kernel_rfl) (fun _ _ _ h => h) (by rfl) hS (fun w2 hw2 => ?ry42) ?rr42
    case ry42 => ((try dsimp only at hw2); go_simp <;> with_reducible rfl)
    simp only [Act.put, List.setIfInBounds_toArray, List.set_cons_zero, List.set_cons_succ]
    refine rg_take 17 (v := ?rv43) rfl (by kernel_rfl) (by kernel_rfl) (by kernel_rfl) (fun _ _ _ h => h) (by rfl) hS (fun w2 hw2 => ?ry43) ?rr43
    case ry43 => ((try dsimp only at hw2); go_simp <;> with_reducible rfl)
    simp only [Act.put, List.setIfInBounds_toArray, List.set_cons_zero, List.set_cons_succ]
    refine rg_take 18 (v := ?rv44) rfl (by kernel_rfl) (by kernel_rfl) (by kernel_rfl) (fun _ _ _ h => h) (by rfl) hS (fun w2 hw2 => ?ry44) ?rr44
    case ry44 => ((try dsimp only at hw2); go_simp <;> with_reducible rfl)
    simp only [Act.put, List.setIfInBounds_toArray, List.set_cons_zero, List.set_cons_succ]
    refine rg_take 19 (v := ?rv45) rfl (by kernel_rfl) (by kernel_rfl) (by kernel_rfl) (fun _ _ _ h => h) (by rfl) hS (fun w2 hw2 => ?ry45) ?rr45
    case ry45 => ((try dsimp only at hw2); go_simp <;> with_reducible rfl)
    simp only [Act.put, List.setIfInBounds_toArray, List.set_cons_zero, List.set_cons_succ]
    refine rg_skip 20 rfl (by kernel_rfl) (by kernel_rfl) (by kernel_rfl) (fun _ _ _ h => h) (by rfl) hS ?_
    simp only [Act.put, List.setIfInBounds_toArray, List.set_cons_zero, List.set_cons_succ]
    refine rg_skip 21 rfl (by kernel_rfl) (by kernel_rfl) (by kernel_rfl) (fun _ _ _ h => h) (by rfl) hS ?_
    simp only [Act.put, List.setIfInBounds_toArray, List.set_cons_zero, List.set_cons_succ]
    refine rg_skip 22 rfl (by kernel_rfl) (by kernel_rfl) (by kernel_rfl) (fun _ _ _ h => h) (by rfl) hS ?_
    simp only [Act.put, List.setIfInBounds_toArray, List.set_cons_zero, List.set_cons_succ]
    refine rg_skip 23 rfl (by kernel_rfl) (by kernel_rfl) (by kernel_rfl) (fun _ _ _ h => h) (by rfl) hS ?_
    simp only [Act.put, List.setIfInBounds_toArray, List.set_cons_zero, List.set_cons_succ]
    refine rg_take 24 (v := ?rv46) rfl (by kernel_rfl) (by kernel_rfl) (by kernel_rfl) (fun _ _ _ h => h) (by rfl) hS (fun w2 hw2 => ?ry46) ?rr46
    case ry46 => ((try dsimp only at hw2); go_simp <;> with_reducible rfl)
    simp only [Act.put, List.setIfInBounds_toArray, List.set_cons_zero, List.set_cons_succ]
    refine rg_take 25 (v := ?rv47) rfl (by kernel_rfl) (by kernel_rfl) (by kernel_rfl) (fun _ _ _ h => h) (by rfl) hS (fun w2 hw2 => ?ry47) ?rr47
    case ry47 => ((try dsimp only at hw2); go_simp <;> with_reducible rfl)
    simp only [Act.put, List.setIfInBounds_toArray, List.set_cons_zero, List.set_cons_succ]
    refine rg_done (by kernel_rfl) ?_
    have HS := Lib.hid (HA.out.2.trans (hS.mono HA.out.2.size))
    clear hS
    go_wp2_with fail
    go_ret
    exact ⟨rfl, HS.out⟩
  have hd : decide (rightQ r.asks ∧ rightA r.v6 r.adr ∧ rightN r.target ∧ r.data.length ≤ 1000 ∧ alikeV r (bareV r)) = decide (alikeV r (bareV r)) := by
    by_cases h4 : alikeV r (bareV r)
    · rw [decide_eq_true h4, decide_eq_true (And.intro h0 (And.intro h1 (And.intro h2 (And.intro h3 h4))))]
    · rw [decide_eq_false h4, decide_eq_false (fun h => h4 h.2.2.2.2)]
  rw [hd]
  rw [decide_eq_true h0] at KQ
  rw [decide_eq_true h1] at KA
  rw [decide_eq_true h2] at KT
  have q1000 : decide ((n : Int) ≤ 1000) = true := decide_eq_true (by omega)
  have KQ := Lib.hid KQ
  have KA := Lib.hid KA
  have KT := Lib.hid KT
  go_enter Tryz.func21, Tryz.ntmps21
  go_wp2_with fail
  rw [HW.out]
  have hS : Below W.heap.size W W.drew := (Below.refl _ _).drew
  refine rg_begin (fun w' => Below W.heap.size W w') 26 (by kernel_rfl) rfl ?_
  refine rg_load 0 rfl (by kernel_rfl) (by kernel_rfl) (by kernel_rfl) (w.heap.size) (0) ((rcv r A n c)) (fun _ _ _ h => h) (by rfl) 28 (.tmp 1) rfl rfl hS (fun w2 h2 => (RcBox.later HA.out.1 h2 (Nat.le_refl _)).range) Tryz.underlying28 rfl (rc_size HK.out A n c) ?_
  simp only [Act.put, List.setIfInBounds_toArray, List.set_cons_zero, List.set_cons_succ]
  refine rg_step 1 rfl (by kernel_rfl) (by rfl) (fun K hK => ?_)
  go_simp
  refine (asked_any HK.out A n c _).mono ?_
  rintro e w1 ⟨rfl, g1⟩
  replace hS := hS.trans (g1.mono hS.size)
  clear g1
  refine hK.out _ _ hS ?_
  clear hK K
  try simp only [Act.put, List.setIfInBounds_toArray, List.set_cons_zero, List.set_cons_succ]
  refine rg_step 2 rfl (by kernel_rfl) (by rfl) (fun K hK => ?_)
  go_simp
  refine (KQ.out _ hS).mono ?_
  rintro e w2 ⟨rfl, g2⟩
  replace hS := hS.trans (g2.mono hS.size)
  clear g2
  refine hK.out _ _ hS ?_
  clear hK K
  try simp only [Act.put, List.setIfInBounds_toArray, List.set_cons_zero, List.set_cons_succ]
  refine rg_take 3 (v := ?rv48) rfl (by kernel_rfl) (by kernel_rfl) (by kernel_rfl) (fun _ _ _ h => h) (by rfl) hS (fun w2 hw2 => ?ry48) ?rr48
  case ry48 => ((try dsimp only at hw2); go_simp <;> with_reducible rfl)
  simp only [Act.put, List.setIfInBounds_toArray, List.set_cons_zero, List.set_cons_succ]
  refine rg_take 4 (v := ?rv49) rfl (by kernel_rfl) (by kernel_rfl) (by kernel_rfl) (fun _ _ _ h => h) (by rfl) hS (fun w2 hw2 => ?ry49) ?rr49
  case ry49 => ((try dsimp only at hw2); go_simp <;> with_reducible rfl)
  simp only [Act.put, List.setIfInBounds_toArray, List.set_cons_zero, List.set_cons_succ]
  refine rg_load 5 rfl (by kernel_rfl) (by kernel_rfl) (by kernel_rfl) (w.heap.size) (4) ((adv r.v6 r.adr)) (fun _ _ _ h => h) (by rfl) 26 (.tmp 7) rfl rfl hS (fun w2 h2 => (RcBox.later HA.out.1 h2 (Nat.le_refl _)).adrR) Tryz.underlying26 rfl (ad_size r.v6 HK.out) ?_
  simp only [Act.put, List.setIfInBounds_toArray, List.set_cons_zero, List.set_cons_succ]
  refine rg_step 6 rfl (by kernel_rfl) (by rfl) (fun K hK => ?_)
  go_simp
  refine (KA.out _).mono ?_
  rintro e w3 ⟨rfl, g3⟩
  replace hS := hS.trans (g3.mono hS.size)
  clear g3
  refine hK.out _ _ hS ?_
  clear hK K
  try simp only [Act.put, List.setIfInBounds_toArray, List.set_cons_zero, List.set_cons_succ]
  refine rg_take 7 (v := ?rv50) rfl (by kernel_rfl) (by kernel_rfl) (by kernel_rfl) (fun _ _ _ h => h) (by rfl) hS (fun w2 hw2 => ?ry50) ?rr50
  case ry50 => ((try dsimp only at hw2); go_simp <;> with_reducible rfl)
  simp only [Act.put, List.setIfInBounds_toArray, List.set_cons_zero, List.set_cons_succ]
  refine rg_take 8 (v := ?rv51) rfl (by kernel_rfl) (by kernel_rfl) (by kernel_rfl) (fun _ _ _ h => h) (by rfl) hS (fun w2 hw2 => ?ry51) ?rr51
  case ry51 => ((try dsimp only at hw2); go_simp <;> with_reducible rfl)
  simp only [Act.put, List.setIfInBounds_toArray, List.set_cons_zero, List.set_cons_succ]
  refine rg_take 9 (v := ?rv52) rfl (by kernel_rfl) (by kernel_rfl) (by kernel_rfl) (fun _ _ _ h => h) (by rfl) hS (fun w2 hw2 => ?ry52) ?rr52
  case ry52 => ((try dsimp only at hw2); go_simp <;> with_reducible rfl)
  simp only [Act.put, List.setIfInBounds_toArray, List.set_cons_zero, List.set_cons_succ]
  refine rg_take 10 (v := ?rv53) rfl (by kernel_rfl) (by kernel_rfl) (by kernel_rfl) (fun _ _ _ h => h) (by rfl) hS (fun w2 hw2 => ?ry53) ?rr53
  case ry53 => ((try dsimp only at hw2); go_simp <;> with_reducible rfl)
  simp only [Act.put, List.setIfInBounds_toArray, List.set_cons_zero, List.set_cons_succ]
  refine rg_step 11 rfl (by kernel_rfl) (by rfl) (fun K hK => ?_)
  go_simp
  refine (KT.out _ hS).mono ?_
  rintro e w4 ⟨rfl, g4⟩
  replace hS := hS.trans (g4.mono hS.size)
  clear g4
  refine hK.out _ _ hS ?_
  clear hK K
  try simp only [Act.put, List.setIfInBounds_toArray, List.set_cons_zero, List.set_cons_succ]
  refine rg_take 12 (v := ?rv54) rfl (by kernel_rfl) (by kernel_rfl) (by kernel_rfl) (fun _ _ _ h => h) (by rfl) hS (fun w2 hw2 => ?ry54) ?rr54
  case ry54 => ((try dsimp only at hw2); go_simp <;> with_reducible rfl)
  simp only [Act.put, List.setIfInBounds_toArray, List.set_cons_zero, List.set_cons_succ]
  refine rg_take 13 (v := ?rv55) rfl (by kernel_rfl) (by kernel_rfl) (by kernel_rfl) (fun _ _ _ h => h) (by rfl) hS (fun w2 hw2 => ?ry55) ?rr55
  case ry55 => ((try dsimp only at hw2); go_simp <;> with_reducible rfl)
  simp only [Act.put, List.setIfInBounds_toArray, List.set_cons_zero, List.set_cons_succ]
  refine rg_take 14 (v := ?rv56) rfl (by kernel_rfl) (by kernel_rfl) (by kernel_rfl) (fun _ _ _ h => h) (by rfl) hS (fun w2 hw2 => ?ry56) ?rr56
  case ry56 => ((try dsimp only at hw2); go_simp <;> with_reducible rfl)
  simp only [Act.put, List.setIfInBounds_toArray, List.set_cons_zero, List.set_cons_succ]
  refine rg_take 15 (v := ?rv57) rfl (by kernel_rfl) (by kernel_rfl) (by kernel_rfl) (fun _ _ _ h => h) (by rfl) hS (fun w2 hw2 => ?ry57) ?rr57
  case ry57 => ((try dsimp only at hw2); go_simp <;> with_reducible rfl)
  simp only [Act.put, List.setIfInBounds_toArray, List.set_cons_zero, List.set_cons_succ]
  refine rg_take 16 (v := ?rv58) rfl (by kernel_rfl) (by kernel_rfl) (by kernel_rfl) (fun _ _ _ h => h) (by rfl) hS (fun w2 hw2 => ?ry58) ?rr58
  case ry58 => ((try dsimp only at hw2); go_simp <;> with_reducible rfl)
  simp only [Act.put, List.setIfInBounds_toArray, List.set_cons_zero, List.set_cons_succ]
  refine rg_take 17 (v := ?rv59) rfl (by kernel_rfl) (by kernel_rfl) (by kernel_rfl) (fun _ _ _ h => h) (by rfl) hS (fun w2 hw2 => ?ry59) ?rr59
  case ry59 => ((try dsimp only at hw2); go_simp <;> with_reducible rfl)
  simp only [Act.put, List.setIfInBounds_toArray, List.set_cons_zero, List.set_cons_succ]
  refine rg_take 18 (v := ?rv60) rfl (by kernel_rfl) (by kernel_rfl) (by kernel_rfl) (fun _ _ _ h => h) (by rfl) hS (fun w2 hw2 => ?ry60) ?rr60
  case ry60 => ((try dsimp only at hw2); go_simp <;> with_reducible rfl)
  simp only [Act.put, List.setIfInBounds_toArray, List.set_cons_zero, List.set_cons_succ]
  refine rg_take 19 (v := ?rv61) rfl (by kernel_rfl) (by kernel_rfl) (by kernel_rfl) (fun _ _ _ h => h) (by rfl) hS (fun w2 hw2 => ?ry61) ?rr61
  case ry61 => ((try dsimp only at hw2); go_simp <;> with_reducible rfl)
  simp only [Act.put, List.setIfInBounds_toArray, List.set_cons_zero, List.set_cons_succ]
  refine rg_load 20 rfl (by kernel_rfl) (by kernel_rfl) (by kernel_rfl) (w.heap.size) (0) ((rcv r A n c)) (fun _ _ _ h => h) (by rfl) 28 (.tmp 1) rfl rfl hS (fun w2 h2 => (RcBox.later HA.out.1 h2 (Nat.le_refl _)).range) Tryz.underlying28 rfl (rc_size HK.out A n c) ?_
  simp only [Act.put, List.setIfInBounds_toArray, List.set_cons_zero, List.set_cons_succ]
  refine rg_load 21 rfl (by kernel_rfl) (by kernel_rfl) (by kernel_rfl) (w.heap.size) (0) ((rcv r A n c)) (fun _ _ _ h => h) (by rfl) 28 (.tmp 1) rfl rfl hS (fun w2 h2 => (RcBox.later HA.out.1 h2 (Nat.le_refl _)).range) Tryz.underlying28 rfl (rc_size HK.out A n c) ?_
  simp only [Act.put, List.setIfInBounds_toArray, List.set_cons_zero, List.set_cons_succ]
  refine rg_step 22 rfl (by kernel_rfl) (by rfl) (fun K hK => ?_)
  go_simp
  refine (bare_any HK.out A n c _).mono ?_
  rintro e w5 ⟨A5, n5, c5, rfl, t5, g5⟩
  replace hS := hS.trans (g5.mono hS.size)
  have hbw := HB.out.1.later (HA.out.2.trans (hS.mono HA.out.2.size)) (Nat.le_refl _)
  have ka := Lib.hid (alike_any HK.out (bareV_ok HK.out) hbw (t5.bs hbw))
  clear g5 t5 hbw
  refine hK.out _ _ hS ?_
  clear hK K
  try simp only [Act.put, List.setIfInBounds_toArray, List.set_cons_zero, List.set_cons_succ]
  refine rg_step 23 rfl (by kernel_rfl) (by rfl) (fun K hK => ?_)
  go_simp
  refine ka.out.mono ?_
  rintro e w6 ⟨rfl, g6⟩
  replace hS := hS.trans (g6.mono hS.size)
  clear g6 ka
  refine hK.out _ _ hS ?_
  clear hK K
  try simp only [Act.put, List.setIfInBounds_toArray, List.set_cons_zero, List.set_cons_succ]
  refine rg_take 24 (v := ?rv62) rfl (by kernel_rfl) (by kernel_rfl) (by kernel_rfl) (fun _ _ _ h => h) (by rfl) hS (fun w2 hw2 => ?ry62) ?rr62
  case ry62 => ((try dsimp only at hw2); go_simp <;> with_reducible rfl)
  simp only [Act.put, List.setIfInBounds_toArray, List.set_cons_zero, List.set_cons_succ]
  refine rg_take 25 (v := ?rv63) rfl (by kernel_rfl) (by kernel_rfl) (by kernel_rfl) (fun _ _ _ h => h) (by rfl) hS (fun w2 hw2 => ?ry63) ?rr63
  case ry63 => ((try dsimp only at hw2); go_simp <;> with_reducible rfl)
  simp only [Act.put, List.setIfInBounds_toArray, List.set_cons_zero, List.set_cons_succ]
  refine rg_done (by kernel_rfl) ?_
  have HS := Lib.hid (HA.out.2.trans (hS.mono HA.out.2.size))
  clear hS
  go_wp2_with fail
  go_ret
  exact ⟨rfl, HS.out⟩
end Go.Proofs.YtpojiimcdknafaaGreatDoor

namespace Go.Proofs.YtpojiimcdknafaaGreatDoor
open Go.RowKit
set_option maxRecDepth 100000

theorem wpList_wanted {P : Program} {ops : Array Oper} {rest : List Oper} {o : Oper} {a : Act} {w : World} {Q : Exit → Act → World → Prop} (hw : Region.wanted o (yielded ops a.tmps) = true) (h : o.wp P a w (wpList P ops Q rest) Q) : wpList P ops Q (o :: rest) a w := by
  unfold wpList
  rw [if_pos hw]
  exact .inl h
theorem run_build_rc1 (kind : Int) (w : World) : (Instr.build 28 #[(1, .int .i64 kind)]).run Tryz.prog w = .ok (.agg (rcv ⟨[], kind, 0, 0, false, zero16, [], []⟩ none 0 0)) w := by kernel_rfl
theorem wp_build_rc1 {o : Oper} {a : Act} {w : World} {K : Act → World → Prop} {Q : Exit → Act → World → Prop} (x0 : Operand) (ho : o.op = .build 28 #[(1, x0)]) (kind : Int) (h0 : a.eval x0 = .int .i64 kind)
    (h : K (a.put o.dst (.agg (rcv ⟨[], kind, 0, 0, false, zero16, [], []⟩ none 0 0))) w) : o.wp Tryz.prog a w K Q := by
  have hrun := run_build_rc1 kind w
  unfold Oper.wp execOp
  simp only [ho, Sem.run_bind, Sem.run_pure, Result.andThen_ok, List.map_toArray, List.map_cons, List.map_nil, h0, hrun]
  exact h
theorem wpList_build_rc1 {ops : Array Oper} {rest : List Oper} {o : Oper} {a : Act} {w : World} {Q : Exit → Act → World → Prop} (hgd : o.guard = none) (x0 : Operand) (ho : o.op = .build 28 #[(1, x0)]) (kind : Int) (h0 : a.eval x0 = .int .i64 kind)
    (h : wpList Tryz.prog ops Q rest (a.put o.dst (.agg (rcv ⟨[], kind, 0, 0, false, zero16, [], []⟩ none 0 0))) w) : wpList Tryz.prog ops Q (o :: rest) a w :=
  wpList_plain hgd fun _ hK => wp_build_rc1 x0 ho kind h0 (hK _ _ h)
theorem run_build_rc5 (name : List UInt8) (kind : Int) (cls : Int) (ttl : Int) (target : List UInt8) (w : World) : (Instr.build 28 #[(0, .string (mkS name)), (1, .int .i64 kind), (2, .int .i64 cls), (3, .int .u32 ttl), (5, .string (mkS target))]).run Tryz.prog w = .ok (.agg (rcv ⟨name, kind, cls, ttl, false, zero16, target, []⟩ none 0 0)) w := by kernel_rfl
theorem wp_build_rc5 {o : Oper} {a : Act} {w : World} {K : Act → World → Prop} {Q : Exit → Act → World → Prop} (x0 x1 x2 x3 x4 : Operand) (ho : o.op = .build 28 #[(0, x0), (1, x1), (2, x2), (3, x3), (5, x4)]) (name : List UInt8) (kind : Int) (cls : Int) (ttl : Int) (target : List UInt8) (h0 : a.eval x0 = .string (mkS name)) (h1 : a.eval x1 = .int .i64 kind) (h2 : a.eval x2 = .int .i64 cls) (h3 : a.eval x3 = .int .u32 ttl) (h4 : a.eval x4 = .string (mkS target))
    (h : K (a.put o.dst (.agg (rcv ⟨name, kind, cls, ttl, false, zero16, target, []⟩ none 0 0))) w) : o.wp Tryz.prog a w K Q := by
  have hrun := run_build_rc5 name kind cls ttl target w
  unfold Oper.wp execOp
  simp only [ho, Sem.run_bind, Sem.run_pure, Result.andThen_ok, List.map_toArray, List.map_cons, List.map_nil, h0, h1, h2, h3, h4, hrun]
  exact h
theorem wpList_build_rc5 {ops : Array Oper} {rest : List Oper} {o : Oper} {a : Act} {w : World} {Q : Exit → Act → World → Prop} (hgd : o.guard = none) (x0 x1 x2 x3 x4 : Operand) (ho : o.op = .build 28 #[(0, x0), (1, x1), (2, x2), (3, x3), (5, x4)]) (name : List UInt8) (kind : Int) (cls : Int) (ttl : Int) (target : List UInt8) (h0 : a.eval x0 = .string (mkS name)) (h1 : a.eval x1 = .int .i64 kind) (h2 : a.eval x2 = .int .i64 cls) (h3 : a.eval x3 = .int .u32 ttl) (h4 : a.eval x4 = .string (mkS target))
    (h : wpList Tryz.prog ops Q rest (a.put o.dst (.agg (rcv ⟨name, kind, cls, ttl, false, zero16, target, []⟩ none 0 0))) w) : wpList Tryz.prog ops Q (o :: rest) a w :=
  wpList_plain hgd fun _ hK => wp_build_rc5 x0 x1 x2 x3 x4 ho name kind cls ttl target h0 h1 h2 h3 h4 (hK _ _ h)
theorem run_build_rc6 (name : List UInt8) (kind : Int) (cls : Int) (ttl : Int) (A : Option Addr) (n : Nat) (c : Nat) (l : List UInt8) (w : World) : (Instr.build 28 #[(0, .string (mkS name)), (1, .int .i64 kind), (2, .int .i64 cls), (3, .int .u32 ttl), (6, .slice A n c)]).run Tryz.prog w = .ok (.agg (rcv ⟨name, kind, cls, ttl, false, zero16, [], l⟩ A n c)) w := by kernel_rfl
theorem wp_build_rc6 {o : Oper} {a : Act} {w : World} {K : Act → World → Prop} {Q : Exit → Act → World → Prop} (x0 x1 x2 x3 x4 : Operand) (ho : o.op = .build 28 #[(0, x0), (1, x1), (2, x2), (3, x3), (6, x4)]) (name : List UInt8) (kind : Int) (cls : Int) (ttl : Int) (A : Option Addr) (n : Nat) (c : Nat) (l : List UInt8) (h0 : a.eval x0 = .string (mkS name)) (h1 : a.eval x1 = .int .i64 kind) (h2 : a.eval x2 = .int .i64 cls) (h3 : a.eval x3 = .int .u32 ttl) (h4 : a.eval x4 = .slice A n c)
    (h : K (a.put o.dst (.agg (rcv ⟨name, kind, cls, ttl, false, zero16, [], l⟩ A n c))) w) : o.wp Tryz.prog a w K Q := by
  have hrun := run_build_rc6 name kind cls ttl A n c l w
  unfold Oper.wp execOp
  simp only [ho, Sem.run_bind, Sem.run_pure, Result.andThen_ok, List.map_toArray, List.map_cons, List.map_nil, h0, h1, h2, h3, h4, hrun]
  exact h
theorem wpList_build_rc6 {ops : Array Oper} {rest : List Oper} {o : Oper} {a : Act} {w : World} {Q : Exit → Act → World → Prop} (hgd : o.guard = none) (x0 x1 x2 x3 x4 : Operand) (ho : o.op = .build 28 #[(0, x0), (1, x1), (2, x2), (3, x3), (6, x4)]) (name : List UInt8) (kind : Int) (cls : Int) (ttl : Int) (A : Option Addr) (n : Nat) (c : Nat) (l : List UInt8) (h0 : a.eval x0 = .string (mkS name)) (h1 : a.eval x1 = .int .i64 kind) (h2 : a.eval x2 = .int .i64 cls) (h3 : a.eval x3 = .int .u32 ttl) (h4 : a.eval x4 = .slice A n c)
    (h : wpList Tryz.prog ops Q rest (a.put o.dst (.agg (rcv ⟨name, kind, cls, ttl, false, zero16, [], l⟩ A n c))) w) : wpList Tryz.prog ops Q (o :: rest) a w :=
  wpList_plain hgd fun _ hK => wp_build_rc6 x0 x1 x2 x3 x4 ho name kind cls ttl A n c l h0 h1 h2 h3 h4 (hK _ _ h)

/-! ### '==' of questions -/
theorem ba_self (s : ByteArray) : (s == s) = true := by
  first
    | exact beq_self_eq_true s
    | (show (s.data == s.data) = true; exact beq_self_eq_true _)
theorem part_qs (q : Qs) (w : World) : (part 9 (qsv q) 0).run Tryz.prog w = .ok (.string (mkS q.name)) w ∧ (part 3 (qsv q) 1).run Tryz.prog w = .ok (.int .i64 q.kind) w ∧ (part 3 (qsv q) 2).run Tryz.prog w = .ok (.int .i64 q.cls) w := by
  refine ⟨?_, ?_, ?_⟩ <;> kernel_rfl
theorem fields_qs : ∃ f0 f1 f2 : Field, (Tryz.prog.fieldsOf 30).toList = [f0, f1, f2] ∧ (f0.name ≠ "_" ∧ f1.name ≠ "_" ∧ f2.name ≠ "_") ∧ (f0.type = 9 ∧ f1.type = 3 ∧ f2.type = 3) ∧ (f0.offset = 0 ∧ f1.offset = 1 ∧ f2.offset = 2) := by
  refine ⟨(Tryz.prog.fieldsOf 30).toList.head!, (Tryz.prog.fieldsOf 30).toList.tail.head!, (Tryz.prog.fieldsOf 30).toList.tail.tail.head!, by kernel_rfl, ⟨?_, ?_, ?_⟩, ⟨by kernel_rfl, by kernel_rfl, by kernel_rfl⟩, ⟨by kernel_rfl, by kernel_rfl, by kernel_rfl⟩⟩
  all_goals exact of_decide_eq_true (by kernel_rfl)
set_option maxHeartbeats 1000000 in
theorem eqIn_qs (d : Nat) (q : Qs) (w : World) : (Op.equalIn (d + 4) 30 (.agg (qsv q)) (.agg (qsv q))).run Tryz.prog w = .ok true w := by
  rw [run_equalIn_struct w (d + 3) 30 _ _ (by kernel_rfl) (by kernel_rfl)]
  obtain ⟨f0, f1, f2, hf, ⟨n0, n1, n2⟩, ⟨t0, t1, t2⟩, ⟨o0, o1, o2⟩⟩ := fields_qs
  rw [hf]
  have e0 : ∀ s : ByteArray, (Op.equalIn (d + 3) 9 (.string s) (.string s)).run Tryz.prog w = .ok true w := fun s => by
    simp [Op.equalIn, run_underlying Tryz.underlying9, ba_self]
  have e2 : ∀ n : Int, (Op.equalIn (d + 3) 3 (.int .i64 n) (.int .i64 n)).run Tryz.prog w = .ok true w := fun n => by
    simp [Op.equalIn, run_underlying Tryz.underlying3]
  obtain ⟨p0, p1, p2⟩ := part_qs q w
  simp only [Op.eqFields, if_pos n0, if_pos n1, if_pos n2, t0, t1, t2, o0, o1, o2, Sem.run_bind, p0, p1, p2, e0, e2, Result.andThen_ok, Sem.run_ite, Sem.run_pure]
  rfl
theorem eql_qs (q : Qs) (w : World) : (binOp .eql 30 (.agg (qsv q)) (.agg (qsv q))).run Tryz.prog w = .ok (.bool true) w := by
  rw [run_eql_struct]
  have h1 := eqIn_qs 9996 q w
  rw [show (10000 : Nat) = 9996 + 4 from rfl] at *
  simp only [h1]
  rfl
set_option maxHeartbeats 4000000 in
/-- Two records that are one and the same. -/
theorem record_same {r : Rc} (hk : r.ok) {A B : Option Addr} {n c m d : Nat} {w : World} (hb : Bs w A n c r.data) (hb2 : Bs w B m d r.data) : Calls Tryz.prog 19 #[.agg (rcv r A n c), .agg (rcv r B m d)] w fun e w' => e = .returned (.bool true) ∧ Below w.heap.size w w' := by
  have a1 := RcBox.new w hk A n c
  have b1 : Below w.heap.size w (w.alloc (.cells (rcv r A n c) 28)) := (Below.refl _ _).alloc (Nat.le_refl _) _
  have a2 := RcBox.new (w.alloc (.cells (rcv r A n c) 28)) hk B m d
  rw [World.size_alloc] at a2
  have b2 : Below (w.heap.size + 1) (w.alloc (.cells (rcv r A n c) 28)) ((w.alloc (.cells (rcv r A n c) 28)).alloc (.cells (rcv r B m d) 28)) := (Below.refl _ _).alloc (by simp) _
  have hA := And.intro (a1.later b2 (by simp)) (And.intro a2 (b1.trans (b2.mono (by omega))))
  obtain ⟨W, hW⟩ : ∃ W, (w.alloc (.cells (rcv r A n c) 28)).alloc (.cells (rcv r B m d) 28) = W := ⟨_, rfl⟩
  rw [hW] at hA
  have ke := Lib.hid (bytes_same (hb.later hA.2.2 (Nat.le_refl _)) (hb2.later hA.2.2 (Nat.le_refl _)))
  have e0 := hA.1.name
  have e1 := hA.1.kind
  have e2 := hA.1.cls
  have e3 := hA.1.ttl
  have e4 := hA.1.target
  have e5 := hA.1.data
  have g0 := hA.2.1.name
  have g1 := hA.2.1.kind
  have g2 := hA.2.1.cls
  have g3 := hA.2.1.ttl
  have g4 := hA.2.1.target
  have g5 := hA.2.1.data
  have HA := Lib.hid hA
  have HW := Lib.hid hW
  have heq := eql_ad r.v6 r.v6 hk hk
  rw [beq_self_eq_true, beq_self_eq_true, Bool.and_true] at heq
  clear a1 a2 b1 b2 hA hW hb hb2
  go_enter Tryz.func19, Tryz.ntmps19
  go_wp2_with (first
    | (refine wpList_wanted (by rfl) (wp_load_rcAd (.tmp 32) rfl rfl HA.out.1 ?_))
    | (refine wpList_wanted (by rfl) (wp_load_rcAd (.tmp 34) rfl rfl HA.out.2.1 ?_))
    | (rw [HW.out]))
  refine ke.out.mono ?_
  rintro e w' ⟨rfl, rfl⟩
  go_wp2_with fail
  go_ret
  exact ⟨rfl, HA.out.2.2⟩
theorem port_any (v : Int) (w : World) : Calls Tryz.prog 81 #[.int .i64 v] w fun e w' => e = .returned (.int .i64 (wrap64 ((IntKind.u64.wrap v).tmod 65536))) ∧ w = w' := by
  go_enter Tryz.func81, Tryz.ntmps81
  go_wp2
  go_ret
  exact ⟨rfl, rfl⟩
end Go.Proofs.YtpojiimcdknafaaGreatDoor
