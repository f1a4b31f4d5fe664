/-
  Package record's bare, alike: what a type has; whether two have the same. Conditions: those of the slices; 2^47 bytes at most.
  Package record's RightRecord: whatever record. Conditions: those of the slice; names of up to a million bytes; what the program's text has laid.
  Package record's written, WriteQuestion, WriteRecord. Conditions: those of the slices; names of up to a million bytes; what the program's text has laid.
  Records built in part, and behind a guard; '==' of a question with itself; stockadehelp.Record at one and the same; stockadeplay.port. Conditions: those of the slices; 2^47 bytes at most.
  A message loaded as one value. No conditions.
  stockaderef12.two, RightRecord: the document's own answer for whatever record. Conditions: those of the slice; names of 2,000 bytes at most.
-/
import Derived.Test.YtbikifaadpijnaaGreatDoorZ41
import Derived.Test.YtbikifaadpijnaaGreatDoorZ29
import Derived.Test.YtbikifaadpijnaaGreatDoorZ37
import Derived.Test.YtbikifaadpijnaaGreatDoorZ27
import Derived.Test.YtbikifaadpijnaaGreatDoorZ25
import Derived.Test.YtbikifaadpijnaaGreatDoorZ21
import Derived.Laws.StructEq
import Derived.Test.YtbikifaadpijnaaGreatDoorZ32
import Derived.Test.YtbikifaadpijnaaGreatDoorZ39
import Derived.Test.YtbikifaadpijnaaGreatDoorZ26
namespace Go.Proofs.YtbikifaadpijnaaGreatDoor
open Go.RowKit
set_option maxRecDepth 100000

theorem eql_ad (v u : Bool) {a b : List UInt8} (ha : a.length = 16) (hb : b.length = 16) (w : World) : (binOp .eql 55 (.agg (adv v a)) (.agg (adv u b))).run Tryz.prog w = .ok (.bool ((v == u) && (a == b))) w := by
  rw [run_eql_struct]
  have h1 := eqIn_ad 9997 v u ha hb w
  rw [show (10000 : Nat) = 9997 + 3 from rfl] at *
  simp only [h1]
  rfl
theorem bareV_ok {r : Rc} (hk : r.ok) : (bareV r).ok := by
  unfold bareV
  split
  · exact hk
  split
  · exact hk
  split <;> rfl
set_option maxHeartbeats 4000000 in
theorem bare_any {r : Rc} (hk : r.ok) (A : Option Addr) (n c : Nat) (w : World) : Calls Tryz.prog 97 #[.agg (rcv r A n c)] w fun e w' => ∃ A' n' c', e = .returned (.agg (rcv (bareV r) A' n' c')) ∧ DatOf A' n' c' (bareV r).data A n c r.data ∧ Below w.heap.size w w' := by
  have a1 := RcBox.new w hk A n c
  have b1 : Below w.heap.size w (w.alloc (.cells (rcv r A n c) 57)) := (Below.refl _ _).alloc (Nat.le_refl _) _
  obtain ⟨W, hW⟩ : ∃ W, w.alloc (.cells (rcv r A n c) 57) = W := ⟨_, rfl⟩
  rw [hW] at a1 b1
  have HA := Lib.hid (And.intro a1 b1)
  have HW := Lib.hid hW
  have hle : w.heap.size ≤ W.heap.size := b1.size
  clear a1 b1 hW
  unfold bareV
  by_cases h28 : r.kind = 28
  · rw [if_pos h28]
    obtain ⟨name, kind, cls, ttl, v6, adr, target, data⟩ := r
    dsimp only at h28 ⊢
    subst h28
    go_enter Tryz.func97, Tryz.ntmps97
    go_wp2_with (first
      | (refine wpList_store_rc rfl (.tmp 2) (.tmp 25) rfl ⟨[], 0, 0, 0, true, adr, [], []⟩ none 0 0 rfl rfl HA.out.1.2 H5.out.1 ?_; intro w6 a6 o6 z6 g6; have H6 := Lib.hid (And.intro a6 (g6 w.heap.size w hle H5.out.2.2)); clear a6 o6 z6 g6)
      | (refine wpList_load_rc rfl (.tmp 3) rfl rfl H5.out.2.1 ?_)
      | (refine wpList_store_rcB rfl (.tmp 18) (.tmp 16) rfl rfl rfl HA.out.1.2 H4.out.2.1 ?_; intro w5 a5 o5 z5 g5; have H5 := Lib.hid (And.intro (H4.out.1.same (o5 _ (Nat.ne_of_lt H2.out.1.lt))) (And.intro (show RcBox w5 w2.heap.size ⟨[], 0, 0, 0, true, adr, [], []⟩ none 0 0 from a5) (g5 w.heap.size w H2.out.2.2.size H4.out.2.2.2))); clear a5 o5 z5 g5)
      | (refine wpList_load_rcB rfl (.tmp 15) rfl rfl H4.out.2.2.1 ?_)
      | (refine wpList_putV6_rc rfl (.tmp 13) (.const (.bool true)) rfl true rfl rfl H3.out.2.1 ?_; intro w4 a4 o4 z4 g4; have H4 := Lib.hid (And.intro (H3.out.1.same (o4 _ (Nat.ne_of_lt H2.out.1.lt))) (And.intro a4 (And.intro (H3.out.2.2.1.same (o4 _ (Nat.ne_of_lt H2.out.2.1.lt))) (g4 w.heap.size w H2.out.2.2.size H3.out.2.2.2)))); clear a4 o4 z4 g4)
      | (have q2 := H2.out.2.2; refine wpList_alloc_rc rfl rfl ?_; intro w3 a3 b3 z3; have H3 := Lib.hid (And.intro (H2.out.1.later b3 (Nat.le_refl _)) (And.intro a3 (And.intro (H2.out.2.1.later b3 (Nat.le_refl _)) (q2.trans (b3.mono q2.size))))); (have e1 : w3.cell? ⟨w.heap.size, 1, none⟩ = some (.int .i64 28) := H3.out.2.2.1.kind); clear a3 b3 z3 q2)
      | (rw [HW.out]; refine wpList_alloc_rc rfl rfl ?_; intro w2 a2 b2 z2; have H2 := Lib.hid (And.intro a2 (And.intro (HA.out.1.later b2 (Nat.le_refl _)) (HA.out.2.trans (b2.mono HA.out.2.size)))); clear a2 b2 z2))
    exact bodyPost_ret (results_cell_row rfl _ _ W.heap.size 57 _ (0, 0) _ rfl H6.out.1.1 Tryz.underlying57 rfl (rc_size H6.out.1.2 _ _ _)) rfl ⟨none, 0, 0, rfl, .inl ⟨rfl, rfl, rfl, rfl⟩, H6.out.2⟩
  rw [if_neg h28]
  by_cases h1 : r.kind = 1
  · rw [if_pos h1]
    obtain ⟨name, kind, cls, ttl, v6, adr, target, data⟩ := r
    dsimp only at h1 h28 ⊢
    subst h1
    clear h28
    go_enter Tryz.func97, Tryz.ntmps97
    go_wp2_with (first
      | (refine wpList_store_rc rfl (.tmp 2) (.tmp 25) rfl ⟨[], 0, 0, 0, false, adr, [], []⟩ none 0 0 rfl rfl HA.out.1.2 H5.out.1 ?_; intro w6 a6 o6 z6 g6; have H6 := Lib.hid (And.intro a6 (g6 w.heap.size w hle H5.out.2.2)); clear a6 o6 z6 g6)
      | (refine wpList_load_rc rfl (.tmp 3) rfl rfl H5.out.2.1 ?_)
      | (refine wpList_store_rcB rfl (.tmp 18) (.tmp 16) rfl rfl rfl HA.out.1.2 H3.out.2.1 ?_; intro w5 a5 o5 z5 g5; have H5 := Lib.hid (And.intro (H3.out.1.same (o5 _ (Nat.ne_of_lt H2.out.1.lt))) (And.intro (show RcBox w5 w2.heap.size ⟨[], 0, 0, 0, false, adr, [], []⟩ none 0 0 from a5) (g5 w.heap.size w H2.out.2.2.size H3.out.2.2.2))); clear a5 o5 z5 g5)
      | (refine wpList_load_rcB rfl (.tmp 15) rfl rfl H3.out.2.2.1 ?_)
      | (have q2 := H2.out.2.2; refine wpList_alloc_rc rfl rfl ?_; intro w3 a3 b3 z3; have H3 := Lib.hid (And.intro (H2.out.1.later b3 (Nat.le_refl _)) (And.intro a3 (And.intro (H2.out.2.1.later b3 (Nat.le_refl _)) (q2.trans (b3.mono q2.size))))); (have e1 : w3.cell? ⟨w.heap.size, 1, none⟩ = some (.int .i64 1) := H3.out.2.2.1.kind); clear a3 b3 z3 q2)
      | (rw [HW.out]; refine wpList_alloc_rc rfl rfl ?_; intro w2 a2 b2 z2; have H2 := Lib.hid (And.intro a2 (And.intro (HA.out.1.later b2 (Nat.le_refl _)) (HA.out.2.trans (b2.mono HA.out.2.size)))); clear a2 b2 z2))
    exact bodyPost_ret (results_cell_row rfl _ _ W.heap.size 57 _ (0, 0) _ rfl H6.out.1.1 Tryz.underlying57 rfl (rc_size H6.out.1.2 _ _ _)) rfl ⟨none, 0, 0, rfl, .inl ⟨rfl, rfl, rfl, rfl⟩, H6.out.2⟩
  rw [if_neg h1]
  by_cases h5 : r.kind = 5
  · rw [if_pos h5]
    obtain ⟨name, kind, cls, ttl, v6, adr, target, data⟩ := r
    dsimp only at h1 h28 h5 ⊢
    subst h5
    clear h28 h1
    go_enter Tryz.func97, Tryz.ntmps97
    go_wp2_with (first
      | (refine wpList_store_rc rfl (.tmp 2) (.tmp 25) rfl ⟨[], 0, 0, 0, false, zero16, target, []⟩ none 0 0 rfl rfl rfl H5.out.1 ?_; intro w6 a6 o6 z6 g6; have H6 := Lib.hid (And.intro a6 (g6 w.heap.size w hle H5.out.2.2)); clear a6 o6 z6 g6)
      | (refine wpList_load_rc rfl (.tmp 3) rfl rfl H5.out.2.1 ?_)
      | (refine wpList_putTarget_rc rfl (.tmp 21) (.tmp 20) rfl target rfl rfl H3.out.2.1 ?_; intro w5 a5 o5 z5 g5; have H5 := Lib.hid (And.intro (H3.out.1.same (o5 _ (Nat.ne_of_lt H2.out.1.lt))) (And.intro (show RcBox w5 w2.heap.size ⟨[], 0, 0, 0, false, zero16, target, []⟩ none 0 0 from a5) (g5 w.heap.size w H2.out.2.2.size H3.out.2.2.2))); clear a5 o5 z5 g5)
      | (have q2 := H2.out.2.2; refine wpList_alloc_rc rfl rfl ?_; intro w3 a3 b3 z3; have H3 := Lib.hid (And.intro (H2.out.1.later b3 (Nat.le_refl _)) (And.intro a3 (And.intro (H2.out.2.1.later b3 (Nat.le_refl _)) (q2.trans (b3.mono q2.size))))); (have e1 : w3.cell? ⟨w.heap.size, 1, none⟩ = some (.int .i64 5) := H3.out.2.2.1.kind); (have e21 : w3.cell? ⟨w.heap.size, 21, none⟩ = some (.string (mkS target)) := H3.out.2.2.1.target); clear a3 b3 z3 q2)
      | (rw [HW.out]; refine wpList_alloc_rc rfl rfl ?_; intro w2 a2 b2 z2; have H2 := Lib.hid (And.intro a2 (And.intro (HA.out.1.later b2 (Nat.le_refl _)) (HA.out.2.trans (b2.mono HA.out.2.size)))); clear a2 b2 z2))
    exact bodyPost_ret (results_cell_row rfl _ _ W.heap.size 57 _ (0, 0) _ rfl H6.out.1.1 Tryz.underlying57 rfl (rc_size H6.out.1.2 _ _ _)) rfl ⟨none, 0, 0, rfl, .inl ⟨rfl, rfl, rfl, rfl⟩, H6.out.2⟩
  · rw [if_neg h5]
    obtain ⟨name, kind, cls, ttl, v6, adr, target, data⟩ := r
    dsimp only at h1 h28 h5 ⊢
    go_enter Tryz.func97, Tryz.ntmps97
    go_wp2_with (first
      | (refine wpList_store_rc rfl (.tmp 2) (.tmp 25) rfl ⟨[], 0, 0, 0, false, zero16, [], data⟩ A n c rfl rfl rfl H5.out.1 ?_; intro w6 a6 o6 z6 g6; have H6 := Lib.hid (And.intro a6 (g6 w.heap.size w hle H5.out.2.2)); clear a6 o6 z6 g6)
      | (refine wpList_load_rc rfl (.tmp 3) rfl rfl H5.out.2.1 ?_)
      | (refine wpList_putData_rc rfl (.tmp 24) (.tmp 23) rfl data A n c rfl rfl H3.out.2.1 ?_; intro w5 a5 o5 z5 g5; have H5 := Lib.hid (And.intro (H3.out.1.same (o5 _ (Nat.ne_of_lt H2.out.1.lt))) (And.intro (show RcBox w5 w2.heap.size ⟨[], 0, 0, 0, false, zero16, [], data⟩ A n c from a5) (g5 w.heap.size w H2.out.2.2.size H3.out.2.2.2))); clear a5 o5 z5 g5)
      | (have q2 := H2.out.2.2; refine wpList_alloc_rc rfl rfl ?_; intro w3 a3 b3 z3; have H3 := Lib.hid (And.intro (H2.out.1.later b3 (Nat.le_refl _)) (And.intro a3 (And.intro (H2.out.2.1.later b3 (Nat.le_refl _)) (q2.trans (b3.mono q2.size))))); (have e1 : w3.cell? ⟨w.heap.size, 1, none⟩ = some (.int .i64 kind) := H3.out.2.2.1.kind); (have e22 : w3.cell? ⟨w.heap.size, 22, none⟩ = some (.slice A n c) := H3.out.2.2.1.data); clear a3 b3 z3 q2)
      | (rw [HW.out]; refine wpList_alloc_rc rfl rfl ?_; intro w2 a2 b2 z2; have H2 := Lib.hid (And.intro a2 (And.intro (HA.out.1.later b2 (Nat.le_refl _)) (HA.out.2.trans (b2.mono HA.out.2.size)))); clear a2 b2 z2))
    exact bodyPost_ret (results_cell_row rfl _ _ W.heap.size 57 _ (0, 0) _ rfl H6.out.1.1 Tryz.underlying57 rfl (rc_size H6.out.1.2 _ _ _)) rfl ⟨A, n, c, rfl, .inr ⟨rfl, rfl, rfl, rfl⟩, H6.out.2⟩
set_option maxHeartbeats 4000000 in
theorem alike_any {r s : Rc} (hr : r.ok) (hs : s.ok) {A B : Option Addr} {n c m d : Nat} {w : World} (hb : Bs w A n c r.data) (hb2 : Bs w B m d s.data) : Calls Tryz.prog 96 #[.agg (rcv r A n c), .agg (rcv s B m d)] w fun e w' => e = .returned (.bool (decide (alikeV r s))) ∧ Below w.heap.size w w' := by
  have a1 := RcBox.new w hr A n c
  have b1 : Below w.heap.size w (w.alloc (.cells (rcv r A n c) 57)) := (Below.refl _ _).alloc (Nat.le_refl _) _
  have a2 := RcBox.new (w.alloc (.cells (rcv r A n c) 57)) hs B m d
  rw [World.size_alloc] at a2
  have b2 : Below (w.heap.size + 1) (w.alloc (.cells (rcv r A n c) 57)) ((w.alloc (.cells (rcv r A n c) 57)).alloc (.cells (rcv s B m d) 57)) := (Below.refl _ _).alloc (by simp) _
  have hA := And.intro (a1.later b2 (by simp)) (And.intro a2 (b1.trans (b2.mono (by omega))))
  obtain ⟨W, hW⟩ : ∃ W, (w.alloc (.cells (rcv r A n c) 57)).alloc (.cells (rcv s B m d) 57) = W := ⟨_, rfl⟩
  rw [hW] at hA
  have ke := Lib.hid (equal_any (hb.later hA.2.2 (Nat.le_refl _)) (hb2.later hA.2.2 (Nat.le_refl _)))
  have e1 := hA.1.target
  have e2 := hA.1.data
  have e3 := hA.2.1.target
  have e4 := hA.2.1.data
  have HA := Lib.hid hA
  have HW := Lib.hid hW
  have heq := eql_ad r.v6 s.v6 hr hs
  have hta := mkS_eq r.target s.target
  clear a1 a2 b1 b2 hA hW hb hb2
  unfold alikeV
  by_cases h1 : r.v6 = s.v6 ∧ r.adr = s.adr
  · rw [show ((r.v6 == s.v6) && (r.adr == s.adr)) = true by rw [h1.1, h1.2, beq_self_eq_true, beq_self_eq_true]; rfl] at heq
    by_cases h2 : r.target = s.target
    · rw [decide_eq_true h2] at hta
      have hdec : decide ((r.v6 = s.v6 ∧ r.adr = s.adr) ∧ r.target = s.target ∧ r.data = s.data) = decide (r.data = s.data) := by
        by_cases h3 : r.data = s.data
        · rw [decide_eq_true h3, decide_eq_true (And.intro h1 (And.intro h2 h3))]
        · rw [decide_eq_false h3, decide_eq_false (fun h => h3 h.2.2)]
      rw [hdec]
      generalize decide (r.data = s.data) = b at ke ⊢
      clear hdec h1 h2
      go_enter Tryz.func96, Tryz.ntmps96
      go_wp2_with (first
        | (rw [HW.out]; refine wpList_load_rcAd rfl (.tmp 5) rfl rfl HA.out.1 ?_)
        | (refine wpList_load_rcAd rfl (.tmp 7) rfl rfl HA.out.2.1 ?_))
      refine ke.out.mono ?_
      rintro e w' ⟨rfl, rfl⟩
      go_wp2_with fail
      go_ret
      exact ⟨rfl, HA.out.2.2⟩
    · rw [decide_eq_false h2] at hta
      rw [decide_eq_false (show ¬ ((r.v6 = s.v6 ∧ r.adr = s.adr) ∧ r.target = s.target ∧ r.data = s.data) from fun h => h2 h.2.1)]
      clear h1 h2
      go_enter Tryz.func96, Tryz.ntmps96
      go_wp2_with (first
        | (rw [HW.out]; refine wpList_load_rcAd rfl (.tmp 5) rfl rfl HA.out.1 ?_)
        | (refine wpList_load_rcAd rfl (.tmp 7) rfl rfl HA.out.2.1 ?_))
      go_ret
      exact ⟨rfl, HA.out.2.2⟩
  · have hf : ((r.v6 == s.v6) && (r.adr == s.adr)) = false := by
      cases hv : (r.v6 == s.v6) && (r.adr == s.adr) with
      | false => rfl
      | true =>
        rw [Bool.and_eq_true, beq_iff_eq, beq_iff_eq] at hv
        exact absurd hv h1
    rw [hf] at heq
    rw [decide_eq_false (show ¬ ((r.v6 = s.v6 ∧ r.adr = s.adr) ∧ r.target = s.target ∧ r.data = s.data) from fun h => h1 h.1)]
    clear h1 hf
    go_enter Tryz.func96, Tryz.ntmps96
    go_wp2_with (first
      | (rw [HW.out]; refine wpList_load_rcAd rfl (.tmp 5) rfl rfl HA.out.1 ?_)
      | (refine wpList_load_rcAd rfl (.tmp 7) rfl rfl HA.out.2.1 ?_))
    go_ret
    exact ⟨rfl, HA.out.2.2⟩
end Go.Proofs.YtbikifaadpijnaaGreatDoor

namespace Go.Proofs.YtbikifaadpijnaaGreatDoor
open Go.RowKit
set_option maxRecDepth 100000

set_option maxHeartbeats 8000000 in
theorem rightR_any {r : Rc} (hk : r.ok) {A : Option Addr} {n c : Nat} {w : World} (hb : Bs w A n c r.data) (hn : r.name.length ≤ 1000000) (ht : r.target.length ≤ 1000000) (hE : Env w) : Calls Tryz.prog 62 #[.agg (rcv r A n c)] w fun e w' => e = .returned (.bool (decide (rightR r))) ∧ Below w.heap.size w w' := by
  have a1 := RcBox.new w hk A n c
  have b1 : Below w.heap.size w (w.alloc (.cells (rcv r A n c) 57)) := (Below.refl _ _).alloc (Nat.le_refl _) _
  obtain ⟨W, hW⟩ : ∃ W, w.alloc (.cells (rcv r A n c) 57) = W := ⟨_, rfl⟩
  rw [hW] at a1 b1
  have HA := Lib.hid (And.intro a1 b1)
  have HW := Lib.hid hW
  have HB := Lib.hid (And.intro hb hE)
  have d21 : ∀ w', Below W.heap.size W w' → w'.cell? ⟨w.heap.size, 21, none⟩ = some (.string (mkS r.target)) := fun w' h => (HA.out.1.later h (Nat.le_refl _)).target
  have d22 : ∀ w', Below W.heap.size W w' → w'.cell? ⟨w.heap.size, 22, none⟩ = some (.slice A n c) := fun w' h => (HA.out.1.later h (Nat.le_refl _)).data
  have KQ := fun w1 (g : Below W.heap.size W w1) => rightQ_any r.asks hn (hE.later (HA.out.2.trans (g.mono HA.out.2.size)) (Nat.le_refl _))
  have KT := fun w1 (g : Below W.heap.size W w1) => right_any (mkS r.target) (by rw [mkS_size]; exact ht) (hE.later (HA.out.2.trans (g.mono HA.out.2.size)) (Nat.le_refl _))
  rw [mkS_data] at KT
  have KA := fun w1 => Right_any r.v6 r.adr hk w1
  rw [rightv_dec r.v6 hk] at KA
  have hlen := hb.len
  clear a1 b1 hW hb hE
  have HK := Lib.hid hk
  unfold rightR
  by_cases h0 : rightQ r.asks
  case neg =>
    rw [decide_eq_false (show ¬ (rightQ r.asks ∧ rightA r.v6 r.adr ∧ rightN r.target ∧ r.data.length ≤ 1000 ∧ alikeV r (bareV r)) from fun h => h0 h.1)]
    rw [decide_eq_false h0] at KQ
    have KQ := Lib.hid KQ
    have KA := Lib.hid KA
    have KT := Lib.hid KT
    go_enter Tryz.func62, Tryz.ntmps62
    go_wp2_with fail
    rw [HW.out]
    have hS : Below W.heap.size W W.drew := (Below.refl _ _).drew
    refine rg_begin (fun w' => Below W.heap.size W w') 26 (by kernel_rfl) rfl ?_
    refine rg_load 0 rfl (by kernel_rfl) (by kernel_rfl) (by kernel_rfl) (w.heap.size) (0) ((rcv r A n c)) (fun _ _ _ h => h) (by rfl) 57 (.tmp 1) rfl rfl hS (fun w2 h2 => (RcBox.later HA.out.1 h2 (Nat.le_refl _)).range) Tryz.underlying57 rfl (rc_size HK.out A n c) ?_
    simp only [Act.put, List.setIfInBounds_toArray, List.set_cons_zero, List.set_cons_succ]
    refine rg_step 1 rfl (by kernel_rfl) (by rfl) (fun K hK => ?_)
    go_simp
    refine (asked_any HK.out A n c _).mono ?_
    rintro e w1 ⟨rfl, g1⟩
    replace hS := hS.trans (g1.mono hS.size)
    clear g1
    refine hK.out _ _ hS ?_
    clear hK K
    try simp only [Act.put, List.setIfInBounds_toArray, List.set_cons_zero, List.set_cons_succ]
    refine rg_step 2 rfl (by kernel_rfl) (by rfl) (fun K hK => ?_)
    go_simp
    refine (KQ.out _ hS).mono ?_
    rintro e w2 ⟨rfl, g2⟩
    replace hS := hS.trans (g2.mono hS.size)
    clear g2
    refine hK.out _ _ hS ?_
    clear hK K
    try simp only [Act.put, List.setIfInBounds_toArray, List.set_cons_zero, List.set_cons_succ]
    refine rg_take 3 (v := ?rv1) rfl (by kernel_rfl) (by kernel_rfl) (by kernel_rfl) (fun _ _ _ h => h) (by rfl) hS (fun w2 hw2 => ?ry1) ?rr1
    case ry1 => ((try dsimp only at hw2); go_simp <;> with_reducible rfl)
    simp only [Act.put, List.setIfInBounds_toArray, List.set_cons_zero, List.set_cons_succ]
    refine rg_skip 4 rfl (by kernel_rfl) (by kernel_rfl) (by kernel_rfl) (fun _ _ _ h => h) (by rfl) hS ?_
    simp only [Act.put, List.setIfInBounds_toArray, List.set_cons_zero, List.set_cons_succ]
    refine rg_skip 5 rfl (by kernel_rfl) (by kernel_rfl) (by kernel_rfl) (fun _ _ _ h => h) (by rfl) hS ?_
    simp only [Act.put, List.setIfInBounds_toArray, List.set_cons_zero, List.set_cons_succ]
    refine rg_skip 6 rfl (by kernel_rfl) (by kernel_rfl) (by kernel_rfl) (fun _ _ _ h => h) (by rfl) hS ?_
    simp only [Act.put, List.setIfInBounds_toArray, List.set_cons_zero, List.set_cons_succ]
    refine rg_take 7 (v := ?rv2) rfl (by kernel_rfl) (by kernel_rfl) (by kernel_rfl) (fun _ _ _ h => h) (by rfl) hS (fun w2 hw2 => ?ry2) ?rr2
    case ry2 => ((try dsimp only at hw2); go_simp <;> with_reducible rfl)
    simp only [Act.put, List.setIfInBounds_toArray, List.set_cons_zero, List.set_cons_succ]
    refine rg_take 8 (v := ?rv3) rfl (by kernel_rfl) (by kernel_rfl) (by kernel_rfl) (fun _ _ _ h => h) (by rfl) hS (fun w2 hw2 => ?ry3) ?rr3
    case ry3 => ((try dsimp only at hw2); go_simp <;> with_reducible rfl)
    simp only [Act.put, List.setIfInBounds_toArray, List.set_cons_zero, List.set_cons_succ]
    refine rg_skip 9 rfl (by kernel_rfl) (by kernel_rfl) (by kernel_rfl) (fun _ _ _ h => h) (by rfl) hS ?_
    simp only [Act.put, List.setIfInBounds_toArray, List.set_cons_zero, List.set_cons_succ]
    refine rg_skip 10 rfl (by kernel_rfl) (by kernel_rfl) (by kernel_rfl) (fun _ _ _ h => h) (by rfl) hS ?_
    simp only [Act.put, List.setIfInBounds_toArray, List.set_cons_zero, List.set_cons_succ]
    refine rg_skip 11 rfl (by kernel_rfl) (by kernel_rfl) (by kernel_rfl) (fun _ _ _ h => h) (by rfl) hS ?_
    simp only [Act.put, List.setIfInBounds_toArray, List.set_cons_zero, List.set_cons_succ]
    refine rg_take 12 (v := ?rv4) rfl (by kernel_rfl) (by kernel_rfl) (by kernel_rfl) (fun _ _ _ h => h) (by rfl) hS (fun w2 hw2 => ?ry4) ?rr4
    case ry4 => ((try dsimp only at hw2); go_simp <;> with_reducible rfl)
    simp only [Act.put, List.setIfInBounds_toArray, List.set_cons_zero, List.set_cons_succ]
    refine rg_take 13 (v := ?rv5) rfl (by kernel_rfl) (by kernel_rfl) (by kernel_rfl) (fun _ _ _ h => h) (by rfl) hS (fun w2 hw2 => ?ry5) ?rr5
    case ry5 => ((try dsimp only at hw2); go_simp <;> with_reducible rfl)
    simp only [Act.put, List.setIfInBounds_toArray, List.set_cons_zero, List.set_cons_succ]
    refine rg_skip 14 rfl (by kernel_rfl) (by kernel_rfl) (by kernel_rfl) (fun _ _ _ h => h) (by rfl) hS ?_
    simp only [Act.put, List.setIfInBounds_toArray, List.set_cons_zero, List.set_cons_succ]
    refine rg_skip 15 rfl (by kernel_rfl) (by kernel_rfl) (by kernel_rfl) (fun _ _ _ h => h) (by rfl) hS ?_
    simp only [Act.put, List.setIfInBounds_toArray, List.set_cons_zero, List.set_cons_succ]
    refine rg_skip 16 rfl (by kernel_rfl) (by kernel_rfl) (by kernel_rfl) (fun _ _ _ h => h) (by rfl) hS ?_
    simp only [Act.put, List.setIfInBounds_toArray, List.set_cons_zero, List.set_cons_succ]
    refine rg_skip 17 rfl (by kernel_rfl) (by kernel_rfl) (by kernel_rfl) (fun _ _ _ h => h) (by rfl) hS ?_
    simp only [Act.put, List.setIfInBounds_toArray, List.set_cons_zero, List.set_cons_succ]
    refine rg_take 18 (v := ?rv6) rfl (by kernel_rfl) (by kernel_rfl) (by kernel_rfl) (fun _ _ _ h => h) (by rfl) hS (fun w2 hw2 => ?ry6) ?rr6
    case ry6 => ((try dsimp only at hw2); go_simp <;> with_reducible rfl)
    simp only [Act.put, List.setIfInBounds_toArray, List.set_cons_zero, List.set_cons_succ]
    refine rg_take 19 (v := ?rv7) rfl (by kernel_rfl) (by kernel_rfl) (by kernel_rfl) (fun _ _ _ h => h) (by rfl) hS (fun w2 hw2 => ?ry7) ?rr7
    case ry7 => ((try dsimp only at hw2); go_simp <;> with_reducible rfl)
    simp only [Act.put, List.setIfInBounds_toArray, List.set_cons_zero, List.set_cons_succ]
    refine rg_skip 20 rfl (by kernel_rfl) (by kernel_rfl) (by kernel_rfl) (fun _ _ _ h => h) (by rfl) hS ?_
    simp only [Act.put, List.setIfInBounds_toArray, List.set_cons_zero, List.set_cons_succ]
    refine rg_skip 21 rfl (by kernel_rfl) (by kernel_rfl) (by kernel_rfl) (fun _ _ _ h => h) (by rfl) hS ?_
    simp only [Act.put, List.setIfInBounds_toArray, List.set_cons_zero, List.set_cons_succ]
    refine rg_skip 22 rfl (by kernel_rfl) (by kernel_rfl) (by kernel_rfl) (fun _ _ _ h => h) (by rfl) hS ?_
    simp only [Act.put, List.setIfInBounds_toArray, List.set_cons_zero, List.set_cons_succ]
    refine rg_skip 23 rfl (by kernel_rfl) (by kernel_rfl) (by kernel_rfl) (fun _ _ _ h => h) (by rfl) hS ?_
    simp only [Act.put, List.setIfInBounds_toArray, List.set_cons_zero, List.set_cons_succ]
    refine rg_take 24 (v := ?rv8) rfl (by kernel_rfl) (by kernel_rfl) (by kernel_rfl) (fun _ _ _ h => h) (by rfl) hS (fun w2 hw2 => ?ry8) ?rr8
    case ry8 => ((try dsimp only at hw2); go_simp <;> with_reducible rfl)
    simp only [Act.put, List.setIfInBounds_toArray, List.set_cons_zero, List.set_cons_succ]
    refine rg_take 25 (v := ?rv9) rfl (by kernel_rfl) (by kernel_rfl) (by kernel_rfl) (fun _ _ _ h => h) (by rfl) hS (fun w2 hw2 => ?ry9) ?rr9
    case ry9 => ((try dsimp only at hw2); go_simp <;> with_reducible rfl)
    simp only [Act.put, List.setIfInBounds_toArray, List.set_cons_zero, List.set_cons_succ]
    refine rg_done (by kernel_rfl) ?_
    have HS := Lib.hid (HA.out.2.trans (hS.mono HA.out.2.size))
    clear hS
    go_wp2_with fail
    go_ret
    exact ⟨rfl, HS.out⟩
  by_cases h1 : rightA r.v6 r.adr
  case neg =>
    rw [decide_eq_false (show ¬ (rightQ r.asks ∧ rightA r.v6 r.adr ∧ rightN r.target ∧ r.data.length ≤ 1000 ∧ alikeV r (bareV r)) from fun h => h1 h.2.1)]
    rw [decide_eq_true h0] at KQ
    rw [decide_eq_false h1] at KA
    have KQ := Lib.hid KQ
    have KA := Lib.hid KA
    have KT := Lib.hid KT
    go_enter Tryz.func62, Tryz.ntmps62
    go_wp2_with fail
    rw [HW.out]
    have hS : Below W.heap.size W W.drew := (Below.refl _ _).drew
    refine rg_begin (fun w' => Below W.heap.size W w') 26 (by kernel_rfl) rfl ?_
    refine rg_load 0 rfl (by kernel_rfl) (by kernel_rfl) (by kernel_rfl) (w.heap.size) (0) ((rcv r A n c)) (fun _ _ _ h => h) (by rfl) 57 (.tmp 1) rfl rfl hS (fun w2 h2 => (RcBox.later HA.out.1 h2 (Nat.le_refl _)).range) Tryz.underlying57 rfl (rc_size HK.out A n c) ?_
    simp only [Act.put, List.setIfInBounds_toArray, List.set_cons_zero, List.set_cons_succ]
    refine rg_step 1 rfl (by kernel_rfl) (by rfl) (fun K hK => ?_)
    go_simp
    refine (asked_any HK.out A n c _).mono ?_
    rintro e w1 ⟨rfl, g1⟩
    replace hS := hS.trans (g1.mono hS.size)
    clear g1
    refine hK.out _ _ hS ?_
    clear hK K
    try simp only [Act.put, List.setIfInBounds_toArray, List.set_cons_zero, List.set_cons_succ]
    refine rg_step 2 rfl (by kernel_rfl) (by rfl) (fun K hK => ?_)
    go_simp
    refine (KQ.out _ hS).mono ?_
    rintro e w2 ⟨rfl, g2⟩
    replace hS := hS.trans (g2.mono hS.size)
    clear g2
    refine hK.out _ _ hS ?_
    clear hK K
    try simp only [Act.put, List.setIfInBounds_toArray, List.set_cons_zero, List.set_cons_succ]
    refine rg_take 3 (v := ?rv10) rfl (by kernel_rfl) (by kernel_rfl) (by kernel_rfl) (fun _ _ _ h => h) (by rfl) hS (fun w2 hw2 => ?ry10) ?rr10
    case ry10 => ((try dsimp only at hw2); go_simp <;> with_reducible rfl)
    simp only [Act.put, List.setIfInBounds_toArray, List.set_cons_zero, List.set_cons_succ]
    refine rg_take 4 (v := ?rv11) rfl (by kernel_rfl) (by kernel_rfl) (by kernel_rfl) (fun _ _ _ h => h) (by rfl) hS (fun w2 hw2 => ?ry11) ?rr11
    case ry11 => ((try dsimp only at hw2); go_simp <;> with_reducible rfl)
    simp only [Act.put, List.setIfInBounds_toArray, List.set_cons_zero, List.set_cons_succ]
    refine rg_load 5 rfl (by kernel_rfl) (by kernel_rfl) (by kernel_rfl) (w.heap.size) (4) ((adv r.v6 r.adr)) (fun _ _ _ h => h) (by rfl) 55 (.tmp 7) rfl rfl hS (fun w2 h2 => (RcBox.later HA.out.1 h2 (Nat.le_refl _)).adrR) Tryz.underlying55 rfl (ad_size r.v6 HK.out) ?_
    simp only [Act.put, List.setIfInBounds_toArray, List.set_cons_zero, List.set_cons_succ]
    refine rg_step 6 rfl (by kernel_rfl) (by rfl) (fun K hK => ?_)
    go_simp
    refine (KA.out _).mono ?_
    rintro e w3 ⟨rfl, g3⟩
    replace hS := hS.trans (g3.mono hS.size)
    clear g3
    refine hK.out _ _ hS ?_
    clear hK K
    try simp only [Act.put, List.setIfInBounds_toArray, List.set_cons_zero, List.set_cons_succ]
    refine rg_take 7 (v := ?rv12) rfl (by kernel_rfl) (by kernel_rfl) (by kernel_rfl) (fun _ _ _ h => h) (by rfl) hS (fun w2 hw2 => ?ry12) ?rr12
    case ry12 => ((try dsimp only at hw2); go_simp <;> with_reducible rfl)
    simp only [Act.put, List.setIfInBounds_toArray, List.set_cons_zero, List.set_cons_succ]
    refine rg_take 8 (v := ?rv13) rfl (by kernel_rfl) (by kernel_rfl) (by kernel_rfl) (fun _ _ _ h => h) (by rfl) hS (fun w2 hw2 => ?ry13) ?rr13
    case ry13 => ((try dsimp only at hw2); go_simp <;> with_reducible rfl)
    simp only [Act.put, List.setIfInBounds_toArray, List.set_cons_zero, List.set_cons_succ]
    refine rg_skip 9 rfl (by kernel_rfl) (by kernel_rfl) (by kernel_rfl) (fun _ _ _ h => h) (by rfl) hS ?_
    simp only [Act.put, List.setIfInBounds_toArray, List.set_cons_zero, List.set_cons_succ]
    refine rg_skip 10 rfl (by kernel_rfl) (by kernel_rfl) (by kernel_rfl) (fun _ _ _ h => h) (by rfl) hS ?_
    simp only [Act.put, List.setIfInBounds_toArray, List.set_cons_zero, List.set_cons_succ]
    refine rg_skip 11 rfl (by kernel_rfl) (by kernel_rfl) (by kernel_rfl) (fun _ _ _ h => h) (by rfl) hS ?_
    simp only [Act.put, List.setIfInBounds_toArray, List.set_cons_zero, List.set_cons_succ]
    refine rg_take 12 (v := ?rv14) rfl (by kernel_rfl) (by kernel_rfl) (by kernel_rfl) (fun _ _ _ h => h) (by rfl) hS (fun w2 hw2 => ?ry14) ?rr14
    case ry14 => ((try dsimp only at hw2); go_simp <;> with_reducible rfl)
    simp only [Act.put, List.setIfInBounds_toArray, List.set_cons_zero, List.set_cons_succ]
    refine rg_take 13 (v := ?rv15) rfl (by kernel_rfl) (by kernel_rfl) (by kernel_rfl) (fun _ _ _ h => h) (by rfl) hS (fun w2 hw2 => ?ry15) ?rr15
    case ry15 => ((try dsimp only at hw2); go_simp <;> with_reducible rfl)
    simp only [Act.put, List.setIfInBounds_toArray, List.set_cons_zero, List.set_cons_succ]
    refine rg_skip 14 rfl (by kernel_rfl) (by kernel_rfl) (by kernel_rfl) (fun _ _ _ h => h) (by rfl) hS ?_
    simp only [Act.put, List.setIfInBounds_toArray, List.set_cons_zero, List.set_cons_succ]
    refine rg_skip 15 rfl (by kernel_rfl) (by kernel_rfl) (by kernel_rfl) (fun _ _ _ h => h) (by rfl) hS ?_
    simp only [Act.put, List.setIfInBounds_toArray, List.set_cons_zero, List.set_cons_succ]
    refine rg_skip 16 rfl (by kernel_rfl) (by kernel_rfl) (by kernel_rfl) (fun _ _ _ h => h) (by rfl) hS ?_
    simp only [Act.put, List.setIfInBounds_toArray, List.set_cons_zero, List.set_cons_succ]
    refine rg_skip 17 rfl (by kernel_rfl) (by kernel_rfl) (by kernel_rfl) (fun _ _ _ h => h) (by rfl) hS ?_
    simp only [Act.put, List.setIfInBounds_toArray, List.set_cons_zero, List.set_cons_succ]
    refine rg_take 18 (v := ?rv16) rfl (by kernel_rfl) (by kernel_rfl) (by kernel_rfl) (fun _ _ _ h => h) (by rfl) hS (fun w2 hw2 => ?ry16) ?rr16
    case ry16 => ((try dsimp only at hw2); go_simp <;> with_reducible rfl)
    simp only [Act.put, List.setIfInBounds_toArray, List.set_cons_zero, List.set_cons_succ]
    refine rg_take 19 (v := ?rv17) rfl (by kernel_rfl) (by kernel_rfl) (by kernel_rfl) (fun _ _ _ h => h) (by rfl) hS (fun w2 hw2 => ?ry17) ?rr17
    case ry17 => ((try dsimp only at hw2); go_simp <;> with_reducible rfl)
    simp only [Act.put, List.setIfInBounds_toArray, List.set_cons_zero, List.set_cons_succ]
    refine rg_skip 20 rfl (by kernel_rfl) (by kernel_rfl) (by kernel_rfl) (fun _ _ _ h => h) (by rfl) hS ?_
    simp only [Act.put, List.setIfInBounds_toArray, List.set_cons_zero, List.set_cons_succ]
    refine rg_skip 21 rfl (by kernel_rfl) (by kernel_rfl) (by kernel_rfl) (fun _ _ _ h => h) (by rfl) hS ?_
    simp only [Act.put, List.setIfInBounds_toArray, List.set_cons_zero, List.set_cons_succ]
    refine rg_skip 22 rfl (by kernel_rfl) (by kernel_rfl) (by kernel_rfl) (fun _ _ _ h => h) (by rfl) hS ?_
    simp only [Act.put, List.setIfInBounds_toArray, List.set_cons_zero, List.set_cons_succ]
    refine rg_skip 23 rfl (by kernel_rfl) (by kernel_rfl) (by kernel_rfl) (fun _ _ _ h => h) (by rfl) hS ?_
    simp only [Act.put, List.setIfInBounds_toArray, List.set_cons_zero, List.set_cons_succ]
    refine rg_take 24 (v := ?rv18) rfl (by kernel_rfl) (by kernel_rfl) (by kernel_rfl) (fun _ _ _ h => h) (by rfl) hS (fun w2 hw2 => ?ry18) ?rr18
    case ry18 => ((try dsimp only at hw2); go_simp <;> with_reducible rfl)
    simp only [Act.put, List.setIfInBounds_toArray, List.set_cons_zero, List.set_cons_succ]
    refine rg_take 25 (v := ?rv19) rfl (by kernel_rfl) (by kernel_rfl) (by kernel_rfl) (fun _ _ _ h => h) (by rfl) hS (fun w2 hw2 => ?ry19) ?rr19
    case ry19 => ((try dsimp only at hw2); go_simp <;> with_reducible rfl)
    simp only [Act.put, List.setIfInBounds_toArray, List.set_cons_zero, List.set_cons_succ]
    refine rg_done (by kernel_rfl) ?_
    have HS := Lib.hid (HA.out.2.trans (hS.mono HA.out.2.size))
    clear hS
    go_wp2_with fail
    go_ret
    exact ⟨rfl, HS.out⟩
  by_cases h2 : rightN r.target
  case neg =>
    rw [decide_eq_false (show ¬ (rightQ r.asks ∧ rightA r.v6 r.adr ∧ rightN r.target ∧ r.data.length ≤ 1000 ∧ alikeV r (bareV r)) from fun h => h2 h.2.2.1)]
    rw [decide_eq_true h0] at KQ
    rw [decide_eq_true h1] at KA
    rw [decide_eq_false h2] at KT
    have KQ := Lib.hid KQ
    have KA := Lib.hid KA
    have KT := Lib.hid KT
    go_enter Tryz.func62, Tryz.ntmps62
    go_wp2_with fail
    rw [HW.out]
    have hS : Below W.heap.size W W.drew := (Below.refl _ _).drew
    refine rg_begin (fun w' => Below W.heap.size W w') 26 (by kernel_rfl) rfl ?_
    refine rg_load 0 rfl (by kernel_rfl) (by kernel_rfl) (by kernel_rfl) (w.heap.size) (0) ((rcv r A n c)) (fun _ _ _ h => h) (by rfl) 57 (.tmp 1) rfl rfl hS (fun w2 h2 => (RcBox.later HA.out.1 h2 (Nat.le_refl _)).range) Tryz.underlying57 rfl (rc_size HK.out A n c) ?_
    simp only [Act.put, List.setIfInBounds_toArray, List.set_cons_zero, List.set_cons_succ]
    refine rg_step 1 rfl (by kernel_rfl) (by rfl) (fun K hK => ?_)
    go_simp
    refine (asked_any HK.out A n c _).mono ?_
    rintro e w1 ⟨rfl, g1⟩
    replace hS := hS.trans (g1.mono hS.size)
    clear g1
    refine hK.out _ _ hS ?_
    clear hK K
    try simp only [Act.put, List.setIfInBounds_toArray, List.set_cons_zero, List.set_cons_succ]
    refine rg_step 2 rfl (by kernel_rfl) (by rfl) (fun K hK => ?_)
    go_simp
    refine (KQ.out _ hS).mono ?_
    rintro e w2 ⟨rfl, g2⟩
    replace hS := hS.trans (g2.mono hS.size)
    clear g2
    refine hK.out _ _ hS ?_
    clear hK K
    try simp only [Act.put, List.setIfInBounds_toArray, List.set_cons_zero, List.set_cons_succ]
    refine rg_take 3 (v := ?rv20) rfl (by kernel_rfl) (by kernel_rfl) (by kernel_rfl) (fun _ _ _ h => h) (by rfl) hS (fun w2 hw2 => ?ry20) ?rr20
    case ry20 => ((try dsimp only at hw2); go_simp <;> with_reducible rfl)
    simp only [Act.put, List.setIfInBounds_toArray, List.set_cons_zero, List.set_cons_succ]
    refine rg_take 4 (v := ?rv21) rfl (by kernel_rfl) (by kernel_rfl) (by kernel_rfl) (fun _ _ _ h => h) (by rfl) hS (fun w2 hw2 => ?ry21) ?rr21
    case ry21 => ((try dsimp only at hw2); go_simp <;> with_reducible rfl)
    simp only [Act.put, List.setIfInBounds_toArray, List.set_cons_zero, List.set_cons_succ]
    refine rg_load 5 rfl (by kernel_rfl) (by kernel_rfl) (by kernel_rfl) (w.heap.size) (4) ((adv r.v6 r.adr)) (fun _ _ _ h => h) (by rfl) 55 (.tmp 7) rfl rfl hS (fun w2 h2 => (RcBox.later HA.out.1 h2 (Nat.le_refl _)).adrR) Tryz.underlying55 rfl (ad_size r.v6 HK.out) ?_
    simp only [Act.put, List.setIfInBounds_toArray, List.set_cons_zero, List.set_cons_succ]
    refine rg_step 6 rfl (by kernel_rfl) (by rfl) (fun K hK => ?_)
    go_simp
    refine (KA.out _).mono ?_
    rintro e w3 ⟨rfl, g3⟩
    replace hS := hS.trans (g3.mono hS.size)
    clear g3
    refine hK.out _ _ hS ?_
    clear hK K
    try simp only [Act.put, List.setIfInBounds_toArray, List.set_cons_zero, List.set_cons_succ]
    refine rg_take 7 (v := ?rv22) rfl (by kernel_rfl) (by kernel_rfl) (by kernel_rfl) (fun _ _ _ h => h) (by rfl) hS (fun w2 hw2 => ?ry22) ?rr22
    case ry22 => ((try dsimp only at hw2); go_simp <;> with_reducible rfl)
    simp only [Act.put, List.setIfInBounds_toArray, List.set_cons_zero, List.set_cons_succ]
    refine rg_take 8 (v := ?rv23) rfl (by kernel_rfl) (by kernel_rfl) (by kernel_rfl) (fun _ _ _ h => h) (by rfl) hS (fun w2 hw2 => ?ry23) ?rr23
    case ry23 => ((try dsimp only at hw2); go_simp <;> with_reducible rfl)
    simp only [Act.put, List.setIfInBounds_toArray, List.set_cons_zero, List.set_cons_succ]
    refine rg_take 9 (v := ?rv24) rfl (by kernel_rfl) (by kernel_rfl) (by kernel_rfl) (fun _ _ _ h => h) (by rfl) hS (fun w2 hw2 => ?ry24) ?rr24
    case ry24 => ((try dsimp only at hw2); go_simp <;> with_reducible rfl)
    simp only [Act.put, List.setIfInBounds_toArray, List.set_cons_zero, List.set_cons_succ]
    refine rg_take 10 (v := ?rv25) rfl (by kernel_rfl) (by kernel_rfl) (by kernel_rfl) (fun _ _ _ h => h) (by rfl) hS (fun w2 hw2 => ?ry25) ?rr25
    case ry25 => ((try dsimp only at hw2); go_simp <;> with_reducible rfl)
    simp only [Act.put, List.setIfInBounds_toArray, List.set_cons_zero, List.set_cons_succ]
    refine rg_step 11 rfl (by kernel_rfl) (by rfl) (fun K hK => ?_)
    go_simp
    refine (KT.out _ hS).mono ?_
    rintro e w4 ⟨rfl, g4⟩
    replace hS := hS.trans (g4.mono hS.size)
    clear g4
    refine hK.out _ _ hS ?_
    clear hK K
    try simp only [Act.put, List.setIfInBounds_toArray, List.set_cons_zero, List.set_cons_succ]
    refine rg_take 12 (v := ?rv26) rfl (by kernel_rfl) (by kernel_rfl) (by kernel_rfl) (fun _ _ _ h => h) (by rfl) hS (fun w2 hw2 => ?ry26) ?rr26
    case ry26 => ((try dsimp only at hw2); go_simp <;> with_reducible rfl)
    simp only [Act.put, List.setIfInBounds_toArray, List.set_cons_zero, List.set_cons_succ]
    refine rg_take 13 (v := ?rv27) rfl (by kernel_rfl) (by kernel_rfl) (by kernel_rfl) (fun _ _ _ h => h) (by rfl) hS (fun w2 hw2 => ?ry27) ?rr27
    case ry27 => ((try dsimp only at hw2); go_simp <;> with_reducible rfl)
    simp only [Act.put, List.setIfInBounds_toArray, List.set_cons_zero, List.set_cons_succ]
    refine rg_skip 14 rfl (by kernel_rfl) (by kernel_rfl) (by kernel_rfl) (fun _ _ _ h => h) (by rfl) hS ?_
    simp only [Act.put, List.setIfInBounds_toArray, List.set_cons_zero, List.set_cons_succ]
    refine rg_skip 15 rfl (by kernel_rfl) (by kernel_rfl) (by kernel_rfl) (fun _ _ _ h => h) (by rfl) hS ?_
    simp only [Act.put, List.setIfInBounds_toArray, List.set_cons_zero, List.set_cons_succ]
    refine rg_skip 16 rfl (by kernel_rfl) (by kernel_rfl) (by kernel_rfl) (fun _ _ _ h => h) (by rfl) hS ?_
    simp only [Act.put, List.setIfInBounds_toArray, List.set_cons_zero, List.set_cons_succ]
    refine rg_skip 17 rfl (by kernel_rfl) (by kernel_rfl) (by kernel_rfl) (fun _ _ _ h => h) (by rfl) hS ?_
    simp only [Act.put, List.setIfInBounds_toArray, List.set_cons_zero, List.set_cons_succ]
    refine rg_take 18 (v := ?rv28) rfl (by kernel_rfl) (by kernel_rfl) (by kernel_rfl) (fun _ _ _ h => h) (by rfl) hS (fun w2 hw2 => ?ry28) ?rr28
    case ry28 => ((try dsimp only at hw2); go_simp <;> with_reducible rfl)
    simp only [Act.put, List.setIfInBounds_toArray, List.set_cons_zero, List.set_cons_succ]
    refine rg_take 19 (v := ?rv29) rfl (by kernel_rfl) (by kernel_rfl) (by kernel_rfl) (fun _ _ _ h => h) (by rfl) hS (fun w2 hw2 => ?ry29) ?rr29
    case ry29 => ((try dsimp only at hw2); go_simp <;> with_reducible rfl)
    simp only [Act.put, List.setIfInBounds_toArray, List.set_cons_zero, List.set_cons_succ]
    refine rg_skip 20 rfl (by kernel_rfl) (by kernel_rfl) (by kernel_rfl) (fun _ _ _ h => h) (by rfl) hS ?_
    simp only [Act.put, List.setIfInBounds_toArray, List.set_cons_zero, List.set_cons_succ]
    refine rg_skip 21 rfl (by kernel_rfl) (by kernel_rfl) (by kernel_rfl) (fun _ _ _ h => h) (by rfl) hS ?_
    simp only [Act.put, List.setIfInBounds_toArray, List.set_cons_zero, List.set_cons_succ]
    refine rg_skip 22 rfl (by kernel_rfl) (by kernel_rfl) (by kernel_rfl) (fun _ _ _ h => h) (by rfl) hS ?_
    simp only [Act.put, List.setIfInBounds_toArray, List.set_cons_zero, List.set_cons_succ]
    refine rg_skip 23 rfl (by kernel_rfl) (by kernel_rfl) (by kernel_rfl) (fun _ _ _ h => h) (by rfl) hS ?_
    simp only [Act.put, List.setIfInBounds_toArray, List.set_cons_zero, List.set_cons_succ]
    refine rg_take 24 (v := ?rv30) rfl (by kernel_rfl) (by kernel_rfl) (by kernel_rfl) (fun _ _ _ h => h) (by rfl) hS (fun w2 hw2 => ?ry30) ?rr30
    case ry30 => ((try dsimp only at hw2); go_simp <;> with_reducible rfl)
    simp only [Act.put, List.setIfInBounds_toArray, List.set_cons_zero, List.set_cons_succ]
    refine rg_take 25 (v := ?rv31) rfl (by kernel_rfl) (by kernel_rfl) (by kernel_rfl) (fun _ _ _ h => h) (by rfl) hS (fun w2 hw2 => ?ry31) ?rr31
    case ry31 => ((try dsimp only at hw2); go_simp <;> with_reducible rfl)
    simp only [Act.put, List.setIfInBounds_toArray, List.set_cons_zero, List.set_cons_succ]
    refine rg_done (by kernel_rfl) ?_
    have HS := Lib.hid (HA.out.2.trans (hS.mono HA.out.2.size))
    clear hS
    go_wp2_with fail
    go_ret
    exact ⟨rfl, HS.out⟩
  by_cases h3 : r.data.length ≤ 1000
  case neg =>
    rw [decide_eq_false (show ¬ (rightQ r.asks ∧ rightA r.v6 r.adr ∧ rightN r.target ∧ r.data.length ≤ 1000 ∧ alikeV r (bareV r)) from fun h => h3 h.2.2.2.1)]
    rw [decide_eq_true h0] at KQ
    rw [decide_eq_true h1] at KA
    rw [decide_eq_true h2] at KT
    have q1000 : decide ((n : Int) ≤ 1000) = false := decide_eq_false (by omega)
    have KQ := Lib.hid KQ
    have KA := Lib.hid KA
    have KT := Lib.hid KT
    go_enter Tryz.func62, Tryz.ntmps62
    go_wp2_with fail
    rw [HW.out]
    have hS : Below W.heap.size W W.drew := (Below.refl _ _).drew
    refine rg_begin (fun w' => Below W.heap.size W w') 26 (by kernel_rfl) rfl ?_
    refine rg_load 0 rfl (by kernel_rfl) (by kernel_rfl) (by kernel_rfl) (w.heap.size) (0) ((rcv r A n c)) (fun _ _ _ h => h) (by rfl) 57 (.tmp 1) rfl rfl hS (fun w2 h2 => (RcBox.later HA.out.1 h2 (Nat.le_refl _)).range) Tryz.underlying57 rfl (rc_size HK.out A n c) ?_
    simp only [Act.put, List.setIfInBounds_toArray, List.set_cons_zero, List.set_cons_succ]
    refine rg_step 1 rfl (by kernel_rfl) (by rfl) (fun K hK => ?_)
    go_simp
    refine (asked_any HK.out A n c _).mono ?_
    rintro e w1 ⟨rfl, g1⟩
    replace hS := hS.trans (g1.mono hS.size)
    clear g1
    refine hK.out _ _ hS ?_
    clear hK K
    try simp only [Act.put, List.setIfInBounds_toArray, List.set_cons_zero, List.set_cons_succ]
    refine rg_step 2 rfl (by kernel_rfl) (by rfl) (fun K hK => ?_)
    go_simp
    refine (KQ.out _ hS).mono ?_
    rintro e w2 ⟨rfl, g2⟩
    replace hS := hS.trans (g2.mono hS.size)
    clear g2
    refine hK.out _ _ hS ?_
    clear hK K
    try simp only [Act.put, List.setIfInBounds_toArray, List.set_cons_zero, List.set_cons_succ]
    refine rg_take 3 (v := ?rv32) rfl (by kernel_rfl) (by kernel_rfl) (by kernel_rfl) (fun _ _ _ h => h) (by rfl) hS (fun w2 hw2 => ?ry32) ?rr32
    case ry32 => ((try dsimp only at hw2); go_simp <;> with_reducible rfl)
    simp only [Act.put, List.setIfInBounds_toArray, List.set_cons_zero, List.set_cons_succ]
    refine rg_take 4 (v := ?rv33) rfl (by kernel_rfl) (by kernel_rfl) (by kernel_rfl) (fun _ _ _ h => h) (by rfl) hS (fun w2 hw2 => ?ry33) ?rr33
    case ry33 => ((try dsimp only at hw2); go_simp <;> with_reducible rfl)
    simp only [Act.put, List.setIfInBounds_toArray, List.set_cons_zero, List.set_cons_succ]
    refine rg_load 5 rfl (by kernel_rfl) (by kernel_rfl) (by kernel_rfl) (w.heap.size) (4) ((adv r.v6 r.adr)) (fun _ _ _ h => h) (by rfl) 55 (.tmp 7) rfl rfl hS (fun w2 h2 => (RcBox.later HA.out.1 h2 (Nat.le_refl _)).adrR) Tryz.underlying55 rfl (ad_size r.v6 HK.out) ?_
    simp only [Act.put, List.setIfInBounds_toArray, List.set_cons_zero, List.set_cons_succ]
    refine rg_step 6 rfl (by kernel_rfl) (by rfl) (fun K hK => ?_)
    go_simp
    refine (KA.out _).mono ?_
    rintro e w3 ⟨rfl, g3⟩
    replace hS := hS.trans (g3.mono hS.size)
    clear g3
    refine hK.out _ _ hS ?_
    clear hK K
    try simp only [Act.put, List.setIfInBounds_toArray, List.set_cons_zero, List.set_cons_succ]
    refine rg_take 7 (v := ?rv34) rfl (by kernel_rfl) (by kernel_rfl) (by kernel_rfl) (fun _ _ _ h => h) (by rfl) hS (fun w2 hw2 => ?ry34) ?rr34
    case ry34 => ((try dsimp only at hw2); go_simp <;> with_reducible rfl)
    simp only [Act.put, List.setIfInBounds_toArray, List.set_cons_zero, List.set_cons_succ]
    refine rg_take 8 (v := ?rv35) rfl (by kernel_rfl) (by kernel_rfl) (by kernel_rfl) (fun _ _ _ h => h) (by rfl) hS (fun w2 hw2 => ?ry35) ?rr35
    case ry35 => ((try dsimp only at hw2); go_simp <;> with_reducible rfl)
    simp only [Act.put, List.setIfInBounds_toArray, List.set_cons_zero, List.set_cons_succ]
    refine rg_take 9 (v := ?rv36) rfl (by kernel_rfl) (by kernel_rfl) (by kernel_rfl) (fun _ _ _ h => h) (by rfl) hS (fun w2 hw2 => ?ry36) ?rr36
    case ry36 => ((try dsimp only at hw2); go_simp <;> with_reducible rfl)
    simp only [Act.put, List.setIfInBounds_toArray, List.set_cons_zero, List.set_cons_succ]
    refine rg_take 10 (v := ?rv37) rfl (by kernel_rfl) (by kernel_rfl) (by kernel_rfl) (fun _ _ _ h => h) (by rfl) hS (fun w2 hw2 => ?ry37) ?rr37
    case ry37 => ((try dsimp only at hw2); go_simp <;> with_reducible rfl)
    simp only [Act.put, List.setIfInBounds_toArray, List.set_cons_zero, List.set_cons_succ]
    refine rg_step 11 rfl (by kernel_rfl) (by rfl) (fun K hK => ?_)
    go_simp
    refine (KT.out _ hS).mono ?_
    rintro e w4 ⟨rfl, g4⟩
    replace hS := hS.trans (g4.mono hS.size)
    clear g4
    refine hK.out _ _ hS ?_
    clear hK K
    try simp only [Act.put, List.setIfInBounds_toArray, List.set_cons_zero, List.set_cons_succ]
    refine rg_take 12 (v := ?rv38) rfl (by kernel_rfl) (by kernel_rfl) (by kernel_rfl) (fun _ _ _ h => h) (by rfl) hS (fun w2 hw2 => ?ry38) ?rr38
    case ry38 => ((try dsimp only at hw2); go_simp <;> with_reducible rfl)
    simp only [Act.put, List.setIfInBounds_toArray, List.set_cons_zero, List.set_cons_succ]
    refine rg_take 13 (v := ?rv39) rfl (by kernel_rfl) (by kernel_rfl) (by kernel_rfl) (fun _ _ _ h => h) (by rfl) hS (fun w2 hw2 => ?ry39) ?rr39
    case ry39 => ((try dsimp only at hw2); go_simp <;> with_reducible rfl)
    simp only [Act.put, List.setIfInBounds_toArray, List.set_cons_zero, List.set_cons_succ]
    refine rg_take 14 (v := ?rv40) rfl (by kernel_rfl) (by kernel_rfl) (by kernel_rfl) (fun _ _ _ h => h) (by rfl) hS (fun w2 hw2 => ?ry40) ?rr40
    case ry40 => ((try dsimp only at hw2); go_simp <;> with_reducible rfl)
    simp only [Act.put, List.setIfInBounds_toArray, List.set_cons_zero, List.set_cons_succ]
    refine rg_take 15 (v := ?rv41) rfl (by kernel_rfl) (by kernel_rfl) (by kernel_rfl) (fun _ _ _ h => h) (by rfl) hS (fun w2 hw2 => ?ry41) ?rr41
    case ry41 => ((try dsimp only at hw2); go_simp <;> with_reducible rfl)
    simp only [Act.put, List.setIfInBounds_toArray, List.set_cons_zero, List.set_cons_succ]
    refine rg_take 16 (v := ?rv42) rfl (by kernel_rfl) (by kernel_rfl) (by kernel_rfl) (fun _ _ _ h => h) (by rfl) hS (fun w2 hw2 => ?ry42) ?rr42
    case ry42 => ((try dsimp only at hw2); go_simp <;> with_reducible rfl)
    simp only [Act.put, List.setIfInBounds_toArray, List.set_cons_zero, List.set_cons_succ]
    refine rg_take 17 (v := ?rv43) rfl (by kernel_rfl) (by kernel_rfl) (by kernel_rfl) (fun _ _ _ h => h) (by rfl) hS (fun w2 hw2 => ?ry43) ?rr43
    case ry43 => ((try dsimp only at hw2); go_simp <;> with_reducible rfl)
    simp only [Act.put, List.setIfInBounds_toArray, List.set_cons_zero, List.set_cons_succ]
    refine rg_take 18 (v := ?rv44) rfl (by kernel_rfl) (by kernel_rfl) (by kernel_rfl) (fun _ _ _ h => h) (by rfl) hS (fun w2 hw2 => ?ry44) ?rr44
    case ry44 => ((try dsimp only at hw2); go_simp <;> with_reducible rfl)
    simp only [Act.put, List.setIfInBounds_toArray, List.set_cons_zero, List.set_cons_succ]
    refine rg_take 19 (v := ?rv45) rfl (by kernel_rfl) (by kernel_rfl) (by kernel_rfl) (fun _ _ _ h => h) (by rfl) hS (fun w2 hw2 => ?ry45) ?rr45
    case ry45 => ((try dsimp only at hw2); go_simp <;> with_reducible rfl)
    simp only [Act.put, List.setIfInBounds_toArray, List.set_cons_zero, List.set_cons_succ]
    refine rg_skip 20 rfl (by kernel_rfl) (by kernel_rfl) (by kernel_rfl) (fun _ _ _ h => h) (by rfl) hS ?_
    simp only [Act.put, List.setIfInBounds_toArray, List.set_cons_zero, List.set_cons_succ]
    refine rg_skip 21 rfl (by kernel_rfl) (by kernel_rfl) (by kernel_rfl) (fun _ _ _ h => h) (by rfl) hS ?_
    simp only [Act.put, List.setIfInBounds_toArray, List.set_cons_zero, List.set_cons_succ]
    refine rg_skip 22 rfl (by kernel_rfl) (by kernel_rfl) (by kernel_rfl) (fun _ _ _ h => h) (by rfl) hS ?_
    simp only [Act.put, List.setIfInBounds_toArray, List.set_cons_zero, List.set_cons_succ]
    refine rg_skip 23 rfl (by kernel_rfl) (by kernel_rfl) (by kernel_rfl) (fun _ _ _ h => h) (by rfl) hS ?_
    simp only [Act.put, List.setIfInBounds_toArray, List.set_cons_zero, List.set_cons_succ]
    refine rg_take 24 (v := ?rv46) rfl (by kernel_rfl) (by kernel_rfl) (by kernel_rfl) (fun _ _ _ h => h) (by rfl) hS (fun w2 hw2 => ?ry46) ?rr46
    case ry46 => ((try dsimp only at hw2); go_simp <;> with_reducible rfl)
    simp only [Act.put, List.setIfInBounds_toArray, List.set_cons_zero, List.set_cons_succ]
    refine rg_take 25 (v := ?rv47) rfl (by kernel_rfl) (by kernel_rfl) (by kernel_rfl) (fun _ _ _ h => h) (by rfl) hS (fun w2 hw2 => ?ry47) ?rr47
    case ry47 => ((try dsimp only at hw2); go_simp <;> with_reducible rfl)
    simp only [Act.put, List.setIfInBounds_toArray, List.set_cons_zero, List.set_cons_succ]
    refine rg_done (by kernel_rfl) ?_
    have HS := Lib.hid (HA.out.2.trans (hS.mono HA.out.2.size))
    clear hS
    go_wp2_with fail
    go_ret
    exact ⟨rfl, HS.out⟩
  have hd : decide (rightQ r.asks ∧ rightA r.v6 r.adr ∧ rightN r.target ∧ r.data.length ≤ 1000 ∧ alikeV r (bareV r)) = decide (alikeV r (bareV r)) := by
    by_cases h4 : alikeV r (bareV r)
    · rw [decide_eq_true h4, decide_eq_true (And.intro h0 (And.intro h1 (And.intro h2 (And.intro h3 h4))))]
    · rw [decide_eq_false h4, decide_eq_false (fun h => h4 h.2.2.2.2)]
  rw [hd]
  rw [decide_eq_true h0] at KQ
  rw [decide_eq_true h1] at KA
  rw [decide_eq_true h2] at KT
  have q1000 : decide ((n : Int) ≤ 1000) = true := decide_eq_true (by omega)
  have KQ := Lib.hid KQ
  have KA := Lib.hid KA
  have KT := Lib.hid KT
  go_enter Tryz.func62, Tryz.ntmps62
  go_wp2_with fail
  rw [HW.out]
  have hS : Below W.heap.size W W.drew := (Below.refl _ _).drew
  refine rg_begin (fun w' => Below W.heap.size W w') 26 (by kernel_rfl) rfl ?_
  refine rg_load 0 rfl (by kernel_rfl) (by kernel_rfl) (by kernel_rfl) (w.heap.size) (0) ((rcv r A n c)) (fun _ _ _ h => h) (by rfl) 57 (.tmp 1) rfl rfl hS (fun w2 h2 => (RcBox.later HA.out.1 h2 (Nat.le_refl _)).range) Tryz.underlying57 rfl (rc_size HK.out A n c) ?_
  simp only [Act.put, List.setIfInBounds_toArray, List.set_cons_zero, List.set_cons_succ]
  refine rg_step 1 rfl (by kernel_rfl) (by rfl) (fun K hK => ?_)
  go_simp
  refine (asked_any HK.out A n c _).mono ?_
  rintro e w1 ⟨rfl, g1⟩
  replace hS := hS.trans (g1.mono hS.size)
  clear g1
  refine hK.out _ _ hS ?_
  clear hK K
  try simp only [Act.put, List.setIfInBounds_toArray, List.set_cons_zero, List.set_cons_succ]
  refine rg_step 2 rfl (by kernel_rfl) (by rfl) (fun K hK => ?_)
  go_simp
  refine (KQ.out _ hS).mono ?_
  rintro e w2 ⟨rfl, g2⟩
  replace hS := hS.trans (g2.mono hS.size)
  clear g2
  refine hK.out _ _ hS ?_
  clear hK K
  try simp only [Act.put, List.setIfInBounds_toArray, List.set_cons_zero, List.set_cons_succ]
  refine rg_take 3 (v := ?rv48) rfl (by kernel_rfl) (by kernel_rfl) (by kernel_rfl) (fun _ _ _ h => h) (by rfl) hS (fun w2 hw2 => ?ry48) ?rr48
  case ry48 => ((try dsimp only at hw2); go_simp <;> with_reducible rfl)
  simp only [Act.put, List.setIfInBounds_toArray, List.set_cons_zero, List.set_cons_succ]
  refine rg_take 4 (v := ?rv49) rfl (by kernel_rfl) (by kernel_rfl) (by kernel_rfl) (fun _ _ _ h => h) (by rfl) hS (fun w2 hw2 => ?ry49) ?rr49
  case ry49 => ((try dsimp only at hw2); go_simp <;> with_reducible rfl)
  simp only [Act.put, List.setIfInBounds_toArray, List.set_cons_zero, List.set_cons_succ]
  refine rg_load 5 rfl (by kernel_rfl) (by kernel_rfl) (by kernel_rfl) (w.heap.size) (4) ((adv r.v6 r.adr)) (fun _ _ _ h => h) (by rfl) 55 (.tmp 7) rfl rfl hS (fun w2 h2 => (RcBox.later HA.out.1 h2 (Nat.le_refl _)).adrR) Tryz.underlying55 rfl (ad_size r.v6 HK.out) ?_
  simp only [Act.put, List.setIfInBounds_toArray, List.set_cons_zero, List.set_cons_succ]
  refine rg_step 6 rfl (by kernel_rfl) (by rfl) (fun K hK => ?_)
  go_simp
  refine (KA.out _).mono ?_
  rintro e w3 ⟨rfl, g3⟩
  replace hS := hS.trans (g3.mono hS.size)
  clear g3
  refine hK.out _ _ hS ?_
  clear hK K
  try simp only [Act.put, List.setIfInBounds_toArray, List.set_cons_zero, List.set_cons_succ]
  refine rg_take 7 (v := ?rv50) rfl (by kernel_rfl) (by kernel_rfl) (by kernel_rfl) (fun _ _ _ h => h) (by rfl) hS (fun w2 hw2 => ?ry50) ?rr50
  case ry50 => ((try dsimp only at hw2); go_simp <;> with_reducible rfl)
  simp only [Act.put, List.setIfInBounds_toArray, List.set_cons_zero, List.set_cons_succ]
  refine rg_take 8 (v := ?rv51) rfl (by kernel_rfl) (by kernel_rfl) (by kernel_rfl) (fun _ _ _ h => h) (by rfl) hS (fun w2 hw2 => ?ry51) ?rr51
  case ry51 => ((try dsimp only at hw2); go_simp <;> with_reducible rfl)
  simp only [Act.put, List.setIfInBounds_toArray, List.set_cons_zero, List.set_cons_succ]
  refine rg_take 9 (v := ?rv52) rfl (by kernel_rfl) (by kernel_rfl) (by kernel_rfl) (fun _ _ _ h => h) (by rfl) hS (fun w2 hw2 => ?ry52) ?rr52
  case ry52 => ((try dsimp only at hw2); go_simp <;> with_reducible rfl)
  simp only [Act.put, List.setIfInBounds_toArray, List.set_cons_zero, List.set_cons_succ]
  refine rg_take 10 (v := ?rv53) rfl (by kernel_rfl) (by kernel_rfl) (by kernel_rfl) (fun _ _ _ h => h) (by rfl) hS (fun w2 hw2 => ?ry53) ?rr53
  case ry53 => ((try dsimp only at hw2); go_simp <;> with_reducible rfl)
  simp only [Act.put, List.setIfInBounds_toArray, List.set_cons_zero, List.set_cons_succ]
  refine rg_step 11 rfl (by kernel_rfl) (by rfl) (fun K hK => ?_)
  go_simp
  refine (KT.out _ hS).mono ?_
  rintro e w4 ⟨rfl, g4⟩
  replace hS := hS.trans (g4.mono hS.size)
  clear g4
  refine hK.out _ _ hS ?_
  clear hK K
  try simp only [Act.put, List.setIfInBounds_toArray, List.set_cons_zero, List.set_cons_succ]
  refine rg_take 12 (v := ?rv54) rfl (by kernel_rfl) (by kernel_rfl) (by kernel_rfl) (fun _ _ _ h => h) (by rfl) hS (fun w2 hw2 => ?ry54) ?rr54
  case ry54 => ((try dsimp only at hw2); go_simp <;> with_reducible rfl)
  simp only [Act.put, List.setIfInBounds_toArray, List.set_cons_zero, List.set_cons_succ]
  refine rg_take 13 (v := ?rv55) rfl (by kernel_rfl) (by kernel_rfl) (by kernel_rfl) (fun _ _ _ h => h) (by rfl) hS (fun w2 hw2 => ?ry55) ?rr55
  case ry55 => ((try dsimp only at hw2); go_simp <;> with_reducible rfl)
  simp only [Act.put, List.setIfInBounds_toArray, List.set_cons_zero, List.set_cons_succ]
  refine rg_take 14 (v := ?rv56) rfl (by kernel_rfl) (by kernel_rfl) (by kernel_rfl) (fun _ _ _ h => h) (by rfl) hS (fun w2 hw2 => ?ry56) ?rr56
  case ry56 => ((try dsimp only at hw2); go_simp <;> with_reducible rfl)
  simp only [Act.put, List.setIfInBounds_toArray, List.set_cons_zero, List.set_cons_succ]
  refine rg_take 15 (v := ?rv57) rfl (by kernel_rfl) (by kernel_rfl) (by kernel_rfl) (fun _ _ _ h => h) (by rfl) hS (fun w2 hw2 => ?ry57) ?rr57
  case ry57 => ((try dsimp only at hw2); go_simp <;> with_reducible rfl)
  simp only [Act.put, List.setIfInBounds_toArray, List.set_cons_zero, List.set_cons_succ]
  refine rg_take 16 (v := ?rv58) rfl (by kernel_rfl) (by kernel_rfl) (by kernel_rfl) (fun _ _ _ h => h) (by rfl) hS (fun w2 hw2 => ?ry58) ?rr58
  case ry58 => ((try dsimp only at hw2); go_simp <;> with_reducible rfl)
  simp only [Act.put, List.setIfInBounds_toArray, List.set_cons_zero, List.set_cons_succ]
  refine rg_take 17 (v := ?rv59) rfl (by kernel_rfl) (by kernel_rfl) (by kernel_rfl) (fun _ _ _ h => h) (by rfl) hS (fun w2 hw2 => ?ry59) ?rr59
  case ry59 => ((try dsimp only at hw2); go_simp <;> with_reducible rfl)
  simp only [Act.put, List.setIfInBounds_toArray, List.set_cons_zero, List.set_cons_succ]
  refine rg_take 18 (v := ?rv60) rfl (by kernel_rfl) (by kernel_rfl) (by kernel_rfl) (fun _ _ _ h => h) (by rfl) hS (fun w2 hw2 => ?ry60) ?rr60
  case ry60 => ((try dsimp only at hw2); go_simp <;> with_reducible rfl)
  simp only [Act.put, List.setIfInBounds_toArray, List.set_cons_zero, List.set_cons_succ]
  refine rg_take 19 (v := ?rv61) rfl (by kernel_rfl) (by kernel_rfl) (by kernel_rfl) (fun _ _ _ h => h) (by rfl) hS (fun w2 hw2 => ?ry61) ?rr61
  case ry61 => ((try dsimp only at hw2); go_simp <;> with_reducible rfl)
  simp only [Act.put, List.setIfInBounds_toArray, List.set_cons_zero, List.set_cons_succ]
  refine rg_load 20 rfl (by kernel_rfl) (by kernel_rfl) (by kernel_rfl) (w.heap.size) (0) ((rcv r A n c)) (fun _ _ _ h => h) (by rfl) 57 (.tmp 1) rfl rfl hS (fun w2 h2 => (RcBox.later HA.out.1 h2 (Nat.le_refl _)).range) Tryz.underlying57 rfl (rc_size HK.out A n c) ?_
  simp only [Act.put, List.setIfInBounds_toArray, List.set_cons_zero, List.set_cons_succ]
  refine rg_load 21 rfl (by kernel_rfl) (by kernel_rfl) (by kernel_rfl) (w.heap.size) (0) ((rcv r A n c)) (fun _ _ _ h => h) (by rfl) 57 (.tmp 1) rfl rfl hS (fun w2 h2 => (RcBox.later HA.out.1 h2 (Nat.le_refl _)).range) Tryz.underlying57 rfl (rc_size HK.out A n c) ?_
  simp only [Act.put, List.setIfInBounds_toArray, List.set_cons_zero, List.set_cons_succ]
  refine rg_step 22 rfl (by kernel_rfl) (by rfl) (fun K hK => ?_)
  go_simp
  refine (bare_any HK.out A n c _).mono ?_
  rintro e w5 ⟨A5, n5, c5, rfl, t5, g5⟩
  replace hS := hS.trans (g5.mono hS.size)
  have hbw := HB.out.1.later (HA.out.2.trans (hS.mono HA.out.2.size)) (Nat.le_refl _)
  have ka := Lib.hid (alike_any HK.out (bareV_ok HK.out) hbw (t5.bs hbw))
  clear g5 t5 hbw
  refine hK.out _ _ hS ?_
  clear hK K
  try simp only [Act.put, List.setIfInBounds_toArray, List.set_cons_zero, List.set_cons_succ]
  refine rg_step 23 rfl (by kernel_rfl) (by rfl) (fun K hK => ?_)
  go_simp
  refine ka.out.mono ?_
  rintro e w6 ⟨rfl, g6⟩
  replace hS := hS.trans (g6.mono hS.size)
  clear g6 ka
  refine hK.out _ _ hS ?_
  clear hK K
  try simp only [Act.put, List.setIfInBounds_toArray, List.set_cons_zero, List.set_cons_succ]
  refine rg_take 24 (v := ?rv62) rfl (by kernel_rfl) (by kernel_rfl) (by kernel_rfl) (fun _ _ _ h => h) (by rfl) hS (fun w2 hw2 => ?ry62) ?rr62
  case ry62 => ((try dsimp only at hw2); go_simp <;> with_reducible rfl)
  simp only [Act.put, List.setIfInBounds_toArray, List.set_cons_zero, List.set_cons_succ]
  refine rg_take 25 (v := ?rv63) rfl (by kernel_rfl) (by kernel_rfl) (by kernel_rfl) (fun _ _ _ h => h) (by rfl) hS (fun w2 hw2 => ?ry63) ?rr63
  case ry63 => ((try dsimp only at hw2); go_simp <;> with_reducible rfl)
  simp only [Act.put, List.setIfInBounds_toArray, List.set_cons_zero, List.set_cons_succ]
  refine rg_done (by kernel_rfl) ?_
  have HS := Lib.hid (HA.out.2.trans (hS.mono HA.out.2.size))
  clear hS
  go_wp2_with fail
  go_ret
  exact ⟨rfl, HS.out⟩
end Go.Proofs.YtbikifaadpijnaaGreatDoor

namespace Go.Proofs.YtbikifaadpijnaaGreatDoor
open Go.RowKit
set_option maxRecDepth 100000

set_option maxHeartbeats 2000000 in
/-- What a record bears, as bytes. -/
theorem written_any {r : Rc} (hk : r.ok) (hr : rightR r) {A : Option Addr} {n c : Nat} {w : World} (hb : Bs w A n c r.data) (hE : Env w) : Calls Tryz.prog 64 #[.agg (rcv r A n c)] w fun e w' => ∃ A' n' c', e = .returned (.tuple #[.slice A' n' c', .nilIface]) ∧ Bs w' A' n' c' (dataB r) ∧ Below w.heap.size w w' := by
  have a1 := RcBox.new w hk A n c
  have b1 : Below w.heap.size w (w.alloc (.cells (rcv r A n c) 57)) := (Below.refl _ _).alloc (Nat.le_refl _) _
  obtain ⟨W, hW⟩ : ∃ W, w.alloc (.cells (rcv r A n c) 57) = W := ⟨_, rfl⟩
  rw [hW] at a1 b1
  have HA := Lib.hid (And.intro a1 b1)
  have HW := Lib.hid hW
  have HB := Lib.hid (And.intro hb hE)
  have e21 := a1.target
  have e22 := a1.data
  have e1 := a1.kind
  have hc := alike_cases hr
  have htr := hr.2.2.1
  obtain ⟨name, kind, cls, ttl, v6, adr, target, data⟩ := r
  have hk' := hk
  unfold Rc.ok at hk'
  dsimp only at hc hk' e1 e21 e22 htr
  clear a1 b1 hW hb hE hr
  rcases hc with ⟨rfl, rfl, rfl, rfl⟩ | ⟨rfl, rfl, rfl, rfl⟩ | ⟨rfl, rfl, rfl, rfl⟩ | ⟨h28, h1, h5, rfl, rfl, rfl⟩
  · have e : dataB ⟨name, 28, cls, ttl, true, adr, [], []⟩ = adr := by
      show adr.take 16 = adr
      exact List.take_of_length_le (by omega)
    rw [e]
    clear e
    go_enter Tryz.func64, Tryz.ntmps64
    go_wp2_with (first | (refine wpList_load_rcAd rfl (.tmp 11) rfl rfl HA.out.1 ?_) | (rw [HW.out]))
    refine (widthR_any true adr hk' W).mono ?_
    rintro e w2 ⟨rfl, g2⟩
    rw [show widB true = 16 from rfl]
    have H2 := Lib.hid (And.intro (HA.out.1.later g2 (Nat.le_refl _)).adrB (HA.out.2.trans (g2.mono HA.out.2.size)))
    clear g2
    go_wp2_with fail
    go_ret2
    exact ⟨_, _, _, rfl, H2.out⟩
  · have e : dataB ⟨name, 1, cls, ttl, false, adr, [], []⟩ = adr.take 4 := rfl
    rw [e]
    clear e
    go_enter Tryz.func64, Tryz.ntmps64
    go_wp2_with (first | (refine wpList_load_rcAd rfl (.tmp 11) rfl rfl HA.out.1 ?_) | (rw [HW.out]))
    refine (widthR_any false adr hk' W).mono ?_
    rintro e w2 ⟨rfl, g2⟩
    rw [show widB false = 4 from rfl]
    have hB2 := (HA.out.1.later g2 (Nat.le_refl _)).adrB.cut (i := 0) (k := 4) (by omega) (A' := some ⟨w.heap.size, 5, none⟩) (fun _ => by simp [add_plain]) (by simp)
    rw [List.drop_zero] at hB2
    have H2 := Lib.hid (And.intro hB2 (HA.out.2.trans (g2.mono HA.out.2.size)))
    clear g2 hB2
    go_wp2_with fail
    go_ret2
    exact ⟨_, _, _, rfl, H2.out⟩
  · have e : dataB ⟨name, 5, cls, ttl, false, zero16, target, []⟩ = writeB target := rfl
    rw [e]
    clear e
    have hsz : target.length ≤ 1000000 := by
      have h1 := htr.2
      by_cases he : target = []
      · rw [he]; exact Nat.zero_le _
      · have := sizeL_labsN he; omega
    have KW := write_any (mkS target) (by rw [mkS_size]; exact hsz) (HB.out.2.later HA.out.2 (Nat.le_refl _))
    rw [mkS_data] at KW
    unfold writev writee at KW
    rw [if_pos htr, if_pos htr] at KW
    have K := Lib.hid KW
    clear KW
    go_enter Tryz.func64, Tryz.ntmps64
    go_wp2_with (rw [HW.out])
    refine K.out.mono ?_
    rintro e w2 ⟨A2, c2, v2, rfl, o2, t2, g2⟩
    obtain rfl := t2.none' rfl
    have H2 := Lib.hid (And.intro (Bs.own_later o2 fun _ _ => rfl) (HA.out.2.trans (g2.mono HA.out.2.size)))
    clear o2 t2 g2
    go_wp2_with fail
    go_ret2
    exact ⟨_, _, _, rfl, H2.out⟩
  · have e : dataB ⟨name, kind, cls, ttl, false, zero16, [], data⟩ = data := by
      unfold dataB
      dsimp only
      rw [if_neg (by omega), if_neg h5]
    rw [e]
    clear e
    go_enter Tryz.func64, Tryz.ntmps64
    go_wp2_with (rw [HW.out])
    go_ret2
    exact ⟨A, n, c, rfl, HB.out.1.later HA.out.2 (Nat.le_refl _), HA.out.2⟩
/-- What may be written is not long. -/
theorem right_len {s : List UInt8} (h : rightN s) : s.length ≤ 255 := by
  have h1 := h.2
  by_cases he : s = []
  · rw [he]; exact Nat.zero_le _
  · have := sizeL_labsN he; omega
theorem writeB_le {s : List UInt8} (h : rightN s) : (writeB s).length ≤ 255 := by
  have h1 := h.2
  unfold writeB
  rw [List.length_append, wireL_length]
  simp only [List.length_cons, List.length_nil]
  omega
set_option maxHeartbeats 4000000 in
/-- A question as it is written. -/
theorem writeQ_any (q : Qs) (hs : q.name.length ≤ 1000000) {w : World} (hE : Env w) : Calls Tryz.prog 29 #[.agg (qsv q)] w fun e w' =>
    ∃ A c v, e = .returned (.tuple #[.slice A (writeQv q).length c, v]) ∧ Bs w' A (writeQv q).length c (writeQv q) ∧ Tells w' v (writeQe q) ∧ Below w.heap.size w w' := by
  have a1 := QsBox.new w q
  have b1 : Below w.heap.size w (w.alloc (.cells (qsv q) 51)) := (Below.refl _ _).alloc (Nat.le_refl _) _
  obtain ⟨W, hW⟩ : ∃ W, w.alloc (.cells (qsv q) 51) = W := ⟨_, rfl⟩
  rw [hW] at a1 b1
  have HA := Lib.hid (And.intro a1 b1)
  have KQ := rightQ_any q hs (hE.later b1 (Nat.le_refl _))
  have HW := Lib.hid hW
  clear a1 b1 hW
  unfold writeQv writeQe
  by_cases hr : rightQ q
  · rw [if_pos hr, if_pos hr]
    rw [decide_eq_true hr] at KQ
    have KW := fun w1 (g : Below w.heap.size w w1) => write_any (mkS q.name) (by rw [mkS_size]; exact hs) (hE.later g (Nat.le_refl _))
    rw [mkS_data] at KW
    unfold writev writee at KW
    rw [if_pos hr.1, if_pos hr.1] at KW
    have hwl := writeB_le hr.1
    have hql : (writeQB q).length = (writeB q.name).length + 2 + 2 := by rw [writeQB_length]
    rw [hql]
    have hqe : (writeB q.name ++ putn q.kind 2) ++ putn q.cls 2 = writeQB q := by unfold writeQB; rw [List.append_assoc]
    obtain ⟨name, kind, cls⟩ := q
    dsimp only at KW hwl hqe hql ⊢
    rw [← hqe]
    have K := Lib.hid (And.intro KQ KW)
    have d1 : ∀ w', Below W.heap.size W w' → w'.cell? ⟨w.heap.size, 1, none⟩ = some (.int .i64 kind) := fun w' h => (HA.out.1.later h (Nat.le_refl _)).cell 1
    have d2 : ∀ w', Below W.heap.size W w' → w'.cell? ⟨w.heap.size, 2, none⟩ = some (.int .i64 cls) := fun w' h => (HA.out.1.later h (Nat.le_refl _)).cell 2
    have D1 := Lib.hid d1
    have D2 := Lib.hid d2
    clear KQ KW hr hE hqe hql d1 d2
    generalize writeB name = x at K hwl ⊢
    go_enter Tryz.func29, Tryz.ntmps29
    go_wp2_with (rw [HW.out]; refine wpList_load_qs rfl (.tmp 1) rfl rfl HA.out.1 ?_)
    refine K.out.1.mono ?_
    rintro e w2 ⟨rfl, g2⟩
    have H2 := Lib.hid (And.intro (HA.out.1.later g2 (Nat.le_refl _)) (And.intro g2 (HA.out.2.trans (g2.mono HA.out.2.size))))
    have e0 : w2.cell? ⟨w.heap.size, 0, none⟩ = some (.string (mkS name)) := H2.out.1.cell 0
    clear g2
    go_wp2_with fail
    refine (K.out.2 w2 H2.out.2.2).mono ?_
    rintro e w3 ⟨A3, c3, v3, rfl, o3, t3, g3⟩
    obtain rfl := t3.none' rfl
    have hb3 : Below W.heap.size W w3 := H2.out.2.1.trans (g3.mono H2.out.2.1.size)
    have H3 := Lib.hid (And.intro (Bs.own_later o3 fun _ _ => rfl) hb3)
    clear o3 t3 g3 e0 hb3
    have d1 := D1.out
    have d2 := D2.out
    go_wp2_with fail
    have hS : Below W.heap.size W w3.drew := H3.out.2.drew
    refine rg_begin (fun w' => Below W.heap.size W w') 9 (by kernel_rfl) rfl ?_
    refine rg_take 0 (v := ?rv1) rfl (by kernel_rfl) (by kernel_rfl) (by kernel_rfl) (fun _ _ _ h => h) (by rfl) hS (fun w2 hw2 => ?ry1) ?rr1
    case ry1 => ((try dsimp only at hw2); go_simp <;> with_reducible rfl)
    simp only [Act.put, List.setIfInBounds_toArray, List.set_cons_zero, List.set_cons_succ]
    refine rg_take 1 (v := ?rv2) rfl (by kernel_rfl) (by kernel_rfl) (by kernel_rfl) (fun _ _ _ h => h) (by rfl) hS (fun w2 hw2 => ?ry2) ?rr2
    case ry2 => ((try dsimp only at hw2); go_simp <;> with_reducible rfl)
    simp only [Act.put, List.setIfInBounds_toArray, List.set_cons_zero, List.set_cons_succ]
    refine rg_take 4 (v := ?rv3) rfl (by kernel_rfl) (by kernel_rfl) (by kernel_rfl) (fun _ _ _ h => h) (by rfl) hS (fun w2 hw2 => ?ry3) ?rr3
    case ry3 => ((try dsimp only at hw2); go_simp <;> with_reducible rfl)
    simp only [Act.put, List.setIfInBounds_toArray, List.set_cons_zero, List.set_cons_succ]
    refine rg_take 2 (v := ?rv4) rfl (by kernel_rfl) (by kernel_rfl) (by kernel_rfl) (fun _ _ _ h => h) (by rfl) hS (fun w2 hw2 => ?ry4) ?rr4
    case ry4 => ((try dsimp only at hw2); go_simp <;> with_reducible rfl)
    simp only [Act.put, List.setIfInBounds_toArray, List.set_cons_zero, List.set_cons_succ]
    refine rg_take 5 (v := ?rv5) rfl (by kernel_rfl) (by kernel_rfl) (by kernel_rfl) (fun _ _ _ h => h) (by rfl) hS (fun w2 hw2 => ?ry5) ?rr5
    case ry5 => ((try dsimp only at hw2); go_simp <;> with_reducible rfl)
    simp only [Act.put, List.setIfInBounds_toArray, List.set_cons_zero, List.set_cons_succ]
    refine rg_step 3 rfl (by kernel_rfl) (by rfl) (fun K hK => ?_)
    go_simp
    refine (put16_any (H3.out.1.later (Below.refl _ _).drew (Nat.le_refl _)) kind (by omega)).mono ?_
    rintro e w4 ⟨v4, rfl, o4, g4⟩
    obtain ⟨A4, c4, rfl, hB4⟩ := Bs.of_own o4
    replace hS := hS.trans (g4.mono hS.size)
    have H4 := Lib.hid hB4
    clear o4 g4 hB4
    refine hK.out _ _ hS ?_
    clear hK K
    try simp only [Act.put, List.setIfInBounds_toArray, List.set_cons_zero, List.set_cons_succ]
    refine rg_step 6 rfl (by kernel_rfl) (by rfl) (fun K hK => ?_)
    go_simp
    refine (put16_any H4.out cls (by omega)).mono ?_
    rintro e w5 ⟨v5, rfl, o5, g5⟩
    obtain ⟨A5, c5, rfl, hB5⟩ := Bs.of_own o5
    replace hS := hS.trans (g5.mono hS.size)
    have H5 := Lib.hid hB5
    clear o5 g5 hB5
    refine hK.out _ _ hS ?_
    clear hK K
    try simp only [Act.put, List.setIfInBounds_toArray, List.set_cons_zero, List.set_cons_succ]
    refine rg_take 7 (v := ?rv6) rfl (by kernel_rfl) (by kernel_rfl) (by kernel_rfl) (fun _ _ _ h => h) (by rfl) hS (fun w2 hw2 => ?ry6) ?rr6
    case ry6 => ((try dsimp only at hw2); go_simp <;> with_reducible rfl)
    simp only [Act.put, List.setIfInBounds_toArray, List.set_cons_zero, List.set_cons_succ]
    refine rg_take 8 (v := ?rv7) rfl (by kernel_rfl) (by kernel_rfl) (by kernel_rfl) (fun _ _ _ h => h) (by rfl) hS (fun w2 hw2 => ?ry7) ?rr7
    case ry7 => ((try dsimp only at hw2); go_simp <;> with_reducible rfl)
    simp only [Act.put, List.setIfInBounds_toArray, List.set_cons_zero, List.set_cons_succ]
    refine rg_done (by kernel_rfl) ?_
    have HS := Lib.hid (HA.out.2.trans (hS.mono HA.out.2.size))
    clear hS d1 d2
    go_wp2_with fail
    go_ret2
    exact ⟨A5, c5, .nilIface, rfl, H5.out, Tells.nil _ _ _, HS.out⟩
  · rw [if_neg hr, if_neg hr]
    rw [decide_eq_false hr] at KQ
    have K := Lib.hid KQ
    clear KQ hr hE
    go_enter Tryz.func29, Tryz.ntmps29
    go_wp2_with (rw [HW.out]; refine wpList_load_qs rfl (.tmp 1) rfl rfl HA.out.1 ?_)
    refine K.out.mono ?_
    rintro e w2 ⟨rfl, g2⟩
    have H2 := Lib.hid (HA.out.2.trans (g2.mono HA.out.2.size))
    clear g2
    go_wp2_with fail
    go_ret2
    exact ⟨none, 0, _, rfl, Bs.nil _, Tells.bare _ 1 (by decide) 0, H2.out⟩
set_option maxHeartbeats 4000000 in
/-- A record as it is written. -/
theorem writeR_any {r : Rc} (hk : r.ok) {A : Option Addr} {n c : Nat} {w : World} (hb : Bs w A n c r.data) (hn : r.name.length ≤ 1000000) (ht : r.target.length ≤ 1000000) (t0 : 0 ≤ r.ttl) (t1 : r.ttl < 4294967296) (hE : Env w) : Calls Tryz.prog 32 #[.agg (rcv r A n c)] w fun e w' =>
    ∃ A c v, e = .returned (.tuple #[.slice A (writeRv r).length c, v]) ∧ Bs w' A (writeRv r).length c (writeRv r) ∧ Tells w' v (writeRe r) ∧ Below w.heap.size w w' := by
  have a1 := RcBox.new w hk A n c
  have b1 : Below w.heap.size w (w.alloc (.cells (rcv r A n c) 57)) := (Below.refl _ _).alloc (Nat.le_refl _) _
  obtain ⟨W, hW⟩ : ∃ W, w.alloc (.cells (rcv r A n c) 57) = W := ⟨_, rfl⟩
  rw [hW] at a1 b1
  have HA := Lib.hid (And.intro a1 b1)
  have KR := rightR_any hk (hb.later b1 (Nat.le_refl _)) hn ht (hE.later b1 (Nat.le_refl _))
  have HW := Lib.hid hW
  clear a1 b1 hW
  unfold writeRv writeRe
  by_cases hr : rightR r
  · rw [if_pos hr, if_pos hr]
    rw [decide_eq_true hr] at KR
    have KW := fun w1 (g : Below w.heap.size w w1) => writeQ_any r.asks hn (hE.later g (Nat.le_refl _))
    unfold writeQv writeQe at KW
    rw [if_pos hr.1, if_pos hr.1] at KW
    have KD := fun w1 (g : Below w.heap.size w w1) => written_any hk hr (hb.later g (Nat.le_refl _)) (hE.later g (Nat.le_refl _))
    have hql : (writeQB r.asks).length ≤ 300 := by rw [writeQB_length]; have := writeB_le hr.1.1; omega
    have hdl := dataB_le hr
    have hrl : (writeRB r).length = (writeQB r.asks).length + 4 + 2 + (dataB r).length := by rw [writeRB_length]
    rw [hrl]
    have hre : ((writeQB r.asks ++ putn r.ttl 4) ++ putn ((dataB r).length : Nat) 2) ++ dataB r = writeRB r := by unfold writeRB; simp only [List.append_assoc]
    rw [← hre]
    have d3 : ∀ w', Below W.heap.size W w' → w'.cell? ⟨w.heap.size, 3, none⟩ = some (.int .u32 r.ttl) := fun w' h => (HA.out.1.later h (Nat.le_refl _)).ttl
    have D3 := Lib.hid d3
    have K := Lib.hid (And.intro KR (And.intro KW KD))
    have HK := Lib.hid hk
    clear KR KW KD hr hE hb hn ht hre hrl d3 hk
    generalize writeQB r.asks = x at K hql ⊢
    generalize dataB r = y at K hdl ⊢
    go_enter Tryz.func32, Tryz.ntmps32
    go_wp2_with (rw [HW.out]; refine wpList_load_rc rfl (.tmp 1) rfl rfl HA.out.1 ?_)
    refine K.out.1.mono ?_
    rintro e w2 ⟨rfl, g2⟩
    have H2 := Lib.hid (And.intro (HA.out.1.later g2 (Nat.le_refl _)) (And.intro g2 (HA.out.2.trans (g2.mono HA.out.2.size))))
    clear g2
    go_wp2_with (refine wpList_load_rc rfl (.tmp 1) rfl rfl H2.out.1 ?_)
    refine (asked_any HK.out A n c w2).mono ?_
    rintro e w3 ⟨rfl, g3⟩
    have H3 := Lib.hid (And.intro (H2.out.1.later g3 (Nat.le_refl _)) (And.intro (H2.out.2.1.trans (g3.mono H2.out.2.1.size)) (H2.out.2.2.trans (g3.mono H2.out.2.2.size))))
    clear g3
    go_wp2_with fail
    refine (K.out.2.1 w3 H3.out.2.2).mono ?_
    rintro e w4 ⟨A4, c4, v4, rfl, hB4, t4, g4⟩
    obtain rfl := t4.none' rfl
    have H4 := Lib.hid (And.intro (H3.out.1.later g4 (Nat.le_refl _)) (And.intro hB4 (And.intro (H3.out.2.1.trans (g4.mono H3.out.2.1.size)) (H3.out.2.2.trans (g4.mono H3.out.2.2.size)))))
    clear hB4 t4 g4
    go_wp2_with (refine wpList_load_rc rfl (.tmp 1) rfl rfl H4.out.1 ?_)
    refine (K.out.2.2 w4 H4.out.2.2.2).mono ?_
    rintro e w5 ⟨A5, n5, c5, rfl, hB5, g5⟩
    obtain rfl : n5 = y.length := hB5.len.symm
    have H5 := Lib.hid (And.intro (H4.out.2.1.later g5 (Nat.le_refl _)) (And.intro hB5 (And.intro (H4.out.2.2.1.trans (g5.mono H4.out.2.2.1.size)) (H4.out.2.2.2.trans (g5.mono H4.out.2.2.2.size)))))
    have e3 := D3.out w5 H5.out.2.2.1
    clear hB5 g5
    go_wp2_with fail
    refine (put32_any H5.out.1 r.ttl t0 t1 (by omega)).mono ?_
    rintro e w6 ⟨v6, rfl, o6, g6⟩
    obtain ⟨A6, c6, rfl, hB6⟩ := Bs.of_own o6
    have H6 := Lib.hid (And.intro hB6 (And.intro (H5.out.2.1.later g6 (Nat.le_refl _)) (H5.out.2.2.2.trans (g6.mono H5.out.2.2.2.size))))
    clear o6 g6 hB6 e3
    go_wp2_with fail
    refine (put16_any H6.out.1 (y.length : Nat) (by omega)).mono ?_
    rintro e w7 ⟨v7, rfl, o7, g7⟩
    obtain ⟨A7, c7, rfl, hB7⟩ := Bs.of_own o7
    have H7 := Lib.hid (And.intro hB7 (And.intro (H6.out.2.1.later g7 (Nat.le_refl _)) (H6.out.2.2.trans (g7.mono H6.out.2.2.size))))
    clear o7 g7 hB7
    have hp := pieces_new (w := w7) [⟨A7, x.length + 4 + 2, c7, (x ++ putn r.ttl 4) ++ putn (y.length : Nat) 2⟩, ⟨A5, y.length, c5, y⟩] (by simp only [List.mem_cons, List.not_mem_nil, or_false]; rintro p (rfl | rfl) <;> first | exact H7.out.1 | exact H7.out.2.1) #[.slice A7 (x.length + 4 + 2) c7, .slice A5 y.length c5] rfl 22
    have kc := concat_any w7.heap.size 2 2 _ _ rfl (by omega) hp (by simp [total]; omega)
    have HC := Lib.hid (And.intro kc (H7.out.2.2.alloc H7.out.2.2.size (.cells #[.slice A7 (x.length + 4 + 2) c7, .slice A5 y.length c5] 22)))
    clear hp kc
    go_wp2_with fail
    refine HC.out.1.mono ?_
    rintro e w8 ⟨v8, rfl, o8, g8⟩
    have o9 := o8
    simp only [flat, List.flatMap_cons, List.flatMap_nil, List.append_nil] at o9
    replace o9 := owns_n (n' := x.length + 4 + 2 + y.length) (by simp [total]) o9
    obtain ⟨A9, c9, rfl, hB9⟩ := Bs.of_own o9
    have H9 := Lib.hid (And.intro hB9 (HC.out.2.trans (g8.mono HC.out.2.size)))
    clear o8 o9 g8 hB9
    go_wp2_with fail
    go_ret2
    exact ⟨A9, c9, .nilIface, rfl, H9.out.1, Tells.nil _ _ _, H9.out.2⟩
  · rw [if_neg hr, if_neg hr]
    rw [decide_eq_false hr] at KR
    have K := Lib.hid KR
    clear KR hr hE hb
    go_enter Tryz.func32, Tryz.ntmps32
    go_wp2_with (rw [HW.out]; refine wpList_load_rc rfl (.tmp 1) rfl rfl HA.out.1 ?_)
    refine K.out.mono ?_
    rintro e w2 ⟨rfl, g2⟩
    have H2 := Lib.hid (HA.out.2.trans (g2.mono HA.out.2.size))
    clear g2
    go_wp2_with fail
    go_ret2
    exact ⟨none, 0, _, rfl, Bs.nil _, Tells.bare _ 1 (by decide) 0, H2.out⟩
end Go.Proofs.YtbikifaadpijnaaGreatDoor

namespace Go.Proofs.YtbikifaadpijnaaGreatDoor
open Go.RowKit
set_option maxRecDepth 100000

theorem wpList_wanted {P : Program} {ops : Array Oper} {rest : List Oper} {o : Oper} {a : Act} {w : World} {Q : Exit → Act → World → Prop} (hw : Region.wanted o (yielded ops a.tmps) = true) (h : o.wp P a w (wpList P ops Q rest) Q) : wpList P ops Q (o :: rest) a w := by
  unfold wpList
  rw [if_pos hw]
  exact .inl h
theorem run_build_rc1 (kind : Int) (w : World) : (Instr.build 57 #[(1, .int .i64 kind)]).run Tryz.prog w = .ok (.agg (rcv ⟨[], kind, 0, 0, false, zero16, [], []⟩ none 0 0)) w := by kernel_rfl
theorem wp_build_rc1 {o : Oper} {a : Act} {w : World} {K : Act → World → Prop} {Q : Exit → Act → World → Prop} (x0 : Operand) (ho : o.op = .build 57 #[(1, x0)]) (kind : Int) (h0 : a.eval x0 = .int .i64 kind)
    (h : K (a.put o.dst (.agg (rcv ⟨[], kind, 0, 0, false, zero16, [], []⟩ none 0 0))) w) : o.wp Tryz.prog a w K Q := by
  have hrun := run_build_rc1 kind w
  unfold Oper.wp execOp
  simp only [ho, Sem.run_bind, Sem.run_pure, Result.andThen_ok, List.map_toArray, List.map_cons, List.map_nil, h0, hrun]
  exact h
theorem wpList_build_rc1 {ops : Array Oper} {rest : List Oper} {o : Oper} {a : Act} {w : World} {Q : Exit → Act → World → Prop} (hgd : o.guard = none) (x0 : Operand) (ho : o.op = .build 57 #[(1, x0)]) (kind : Int) (h0 : a.eval x0 = .int .i64 kind)
    (h : wpList Tryz.prog ops Q rest (a.put o.dst (.agg (rcv ⟨[], kind, 0, 0, false, zero16, [], []⟩ none 0 0))) w) : wpList Tryz.prog ops Q (o :: rest) a w :=
  wpList_plain hgd fun _ hK => wp_build_rc1 x0 ho kind h0 (hK _ _ h)
theorem run_build_rc5 (name : List UInt8) (kind : Int) (cls : Int) (ttl : Int) (target : List UInt8) (w : World) : (Instr.build 57 #[(0, .string (mkS name)), (1, .int .i64 kind), (2, .int .i64 cls), (3, .int .u32 ttl), (5, .string (mkS target))]).run Tryz.prog w = .ok (.agg (rcv ⟨name, kind, cls, ttl, false, zero16, target, []⟩ none 0 0)) w := by kernel_rfl
theorem wp_build_rc5 {o : Oper} {a : Act} {w : World} {K : Act → World → Prop} {Q : Exit → Act → World → Prop} (x0 x1 x2 x3 x4 : Operand) (ho : o.op = .build 57 #[(0, x0), (1, x1), (2, x2), (3, x3), (5, x4)]) (name : List UInt8) (kind : Int) (cls : Int) (ttl : Int) (target : List UInt8) (h0 : a.eval x0 = .string (mkS name)) (h1 : a.eval x1 = .int .i64 kind) (h2 : a.eval x2 = .int .i64 cls) (h3 : a.eval x3 = .int .u32 ttl) (h4 : a.eval x4 = .string (mkS target))
    (h : K (a.put o.dst (.agg (rcv ⟨name, kind, cls, ttl, false, zero16, target, []⟩ none 0 0))) w) : o.wp Tryz.prog a w K Q := by
  have hrun := run_build_rc5 name kind cls ttl target w
  unfold Oper.wp execOp
  simp only [ho, Sem.run_bind, Sem.run_pure, Result.andThen_ok, List.map_toArray, List.map_cons, List.map_nil, h0, h1, h2, h3, h4, hrun]
  exact h
theorem wpList_build_rc5 {ops : Array Oper} {rest : List Oper} {o : Oper} {a : Act} {w : World} {Q : Exit → Act → World → Prop} (hgd : o.guard = none) (x0 x1 x2 x3 x4 : Operand) (ho : o.op = .build 57 #[(0, x0), (1, x1), (2, x2), (3, x3), (5, x4)]) (name : List UInt8) (kind : Int) (cls : Int) (ttl : Int) (target : List UInt8) (h0 : a.eval x0 = .string (mkS name)) (h1 : a.eval x1 = .int .i64 kind) (h2 : a.eval x2 = .int .i64 cls) (h3 : a.eval x3 = .int .u32 ttl) (h4 : a.eval x4 = .string (mkS target))
    (h : wpList Tryz.prog ops Q rest (a.put o.dst (.agg (rcv ⟨name, kind, cls, ttl, false, zero16, target, []⟩ none 0 0))) w) : wpList Tryz.prog ops Q (o :: rest) a w :=
  wpList_plain hgd fun _ hK => wp_build_rc5 x0 x1 x2 x3 x4 ho name kind cls ttl target h0 h1 h2 h3 h4 (hK _ _ h)
theorem run_build_rc6 (name : List UInt8) (kind : Int) (cls : Int) (ttl : Int) (A : Option Addr) (n : Nat) (c : Nat) (l : List UInt8) (w : World) : (Instr.build 57 #[(0, .string (mkS name)), (1, .int .i64 kind), (2, .int .i64 cls), (3, .int .u32 ttl), (6, .slice A n c)]).run Tryz.prog w = .ok (.agg (rcv ⟨name, kind, cls, ttl, false, zero16, [], l⟩ A n c)) w := by kernel_rfl
theorem wp_build_rc6 {o : Oper} {a : Act} {w : World} {K : Act → World → Prop} {Q : Exit → Act → World → Prop} (x0 x1 x2 x3 x4 : Operand) (ho : o.op = .build 57 #[(0, x0), (1, x1), (2, x2), (3, x3), (6, x4)]) (name : List UInt8) (kind : Int) (cls : Int) (ttl : Int) (A : Option Addr) (n : Nat) (c : Nat) (l : List UInt8) (h0 : a.eval x0 = .string (mkS name)) (h1 : a.eval x1 = .int .i64 kind) (h2 : a.eval x2 = .int .i64 cls) (h3 : a.eval x3 = .int .u32 ttl) (h4 : a.eval x4 = .slice A n c)
    (h : K (a.put o.dst (.agg (rcv ⟨name, kind, cls, ttl, false, zero16, [], l⟩ A n c))) w) : o.wp Tryz.prog a w K Q := by
  have hrun := run_build_rc6 name kind cls ttl A n c l w
  unfold Oper.wp execOp
  simp only [ho, Sem.run_bind, Sem.run_pure, Result.andThen_ok, List.map_toArray, List.map_cons, List.map_nil, h0, h1, h2, h3, h4, hrun]
  exact h
theorem wpList_build_rc6 {ops : Array Oper} {rest : List Oper} {o : Oper} {a : Act} {w : World} {Q : Exit → Act → World → Prop} (hgd : o.guard = none) (x0 x1 x2 x3 x4 : Operand) (ho : o.op = .build 57 #[(0, x0), (1, x1), (2, x2), (3, x3), (6, x4)]) (name : List UInt8) (kind : Int) (cls : Int) (ttl : Int) (A : Option Addr) (n : Nat) (c : Nat) (l : List UInt8) (h0 : a.eval x0 = .string (mkS name)) (h1 : a.eval x1 = .int .i64 kind) (h2 : a.eval x2 = .int .i64 cls) (h3 : a.eval x3 = .int .u32 ttl) (h4 : a.eval x4 = .slice A n c)
    (h : wpList Tryz.prog ops Q rest (a.put o.dst (.agg (rcv ⟨name, kind, cls, ttl, false, zero16, [], l⟩ A n c))) w) : wpList Tryz.prog ops Q (o :: rest) a w :=
  wpList_plain hgd fun _ hK => wp_build_rc6 x0 x1 x2 x3 x4 ho name kind cls ttl A n c l h0 h1 h2 h3 h4 (hK _ _ h)

/-! ### '==' of questions -/
theorem ba_self (s : ByteArray) : (s == s) = true := by
  first
    | exact beq_self_eq_true s
    | (show (s.data == s.data) = true; exact beq_self_eq_true _)
theorem part_qs (q : Qs) (w : World) : (part 9 (qsv q) 0).run Tryz.prog w = .ok (.string (mkS q.name)) w ∧ (part 3 (qsv q) 1).run Tryz.prog w = .ok (.int .i64 q.kind) w ∧ (part 3 (qsv q) 2).run Tryz.prog w = .ok (.int .i64 q.cls) w := by
  refine ⟨?_, ?_, ?_⟩ <;> kernel_rfl
theorem fields_qs : ∃ f0 f1 f2 : Field, (Tryz.prog.fieldsOf 51).toList = [f0, f1, f2] ∧ (f0.name ≠ "_" ∧ f1.name ≠ "_" ∧ f2.name ≠ "_") ∧ (f0.type = 9 ∧ f1.type = 3 ∧ f2.type = 3) ∧ (f0.offset = 0 ∧ f1.offset = 1 ∧ f2.offset = 2) := by
  refine ⟨(Tryz.prog.fieldsOf 51).toList.head!, (Tryz.prog.fieldsOf 51).toList.tail.head!, (Tryz.prog.fieldsOf 51).toList.tail.tail.head!, by kernel_rfl, ⟨?_, ?_, ?_⟩, ⟨by kernel_rfl, by kernel_rfl, by kernel_rfl⟩, ⟨by kernel_rfl, by kernel_rfl, by kernel_rfl⟩⟩
  all_goals exact of_decide_eq_true (by kernel_rfl)
set_option maxHeartbeats 1000000 in
theorem eqIn_qs (d : Nat) (q : Qs) (w : World) : (Op.equalIn (d + 4) 51 (.agg (qsv q)) (.agg (qsv q))).run Tryz.prog w = .ok true w := by
  rw [run_equalIn_struct w (d + 3) 51 _ _ (by kernel_rfl) (by kernel_rfl)]
  obtain ⟨f0, f1, f2, hf, ⟨n0, n1, n2⟩, ⟨t0, t1, t2⟩, ⟨o0, o1, o2⟩⟩ := fields_qs
  rw [hf]
  have e0 : ∀ s : ByteArray, (Op.equalIn (d + 3) 9 (.string s) (.string s)).run Tryz.prog w = .ok true w := fun s => by
    simp [Op.equalIn, run_underlying Tryz.underlying9, ba_self]
  have e2 : ∀ n : Int, (Op.equalIn (d + 3) 3 (.int .i64 n) (.int .i64 n)).run Tryz.prog w = .ok true w := fun n => by
    simp [Op.equalIn, run_underlying Tryz.underlying3]
  obtain ⟨p0, p1, p2⟩ := part_qs q w
  simp only [Op.eqFields, if_pos n0, if_pos n1, if_pos n2, t0, t1, t2, o0, o1, o2, Sem.run_bind, p0, p1, p2, e0, e2, Result.andThen_ok, Sem.run_ite, Sem.run_pure]
  rfl
theorem eql_qs (q : Qs) (w : World) : (binOp .eql 51 (.agg (qsv q)) (.agg (qsv q))).run Tryz.prog w = .ok (.bool true) w := by
  rw [run_eql_struct]
  have h1 := eqIn_qs 9996 q w
  rw [show (10000 : Nat) = 9996 + 4 from rfl] at *
  simp only [h1]
  rfl
set_option maxHeartbeats 4000000 in
/-- Two records that are one and the same. -/
theorem record_same {r : Rc} (hk : r.ok) {A B : Option Addr} {n c m d : Nat} {w : World} (hb : Bs w A n c r.data) (hb2 : Bs w B m d r.data) : Calls Tryz.prog 41 #[.agg (rcv r A n c), .agg (rcv r B m d)] w fun e w' => e = .returned (.bool true) ∧ Below w.heap.size w w' := by
  have a1 := RcBox.new w hk A n c
  have b1 : Below w.heap.size w (w.alloc (.cells (rcv r A n c) 57)) := (Below.refl _ _).alloc (Nat.le_refl _) _
  have a2 := RcBox.new (w.alloc (.cells (rcv r A n c) 57)) hk B m d
  rw [World.size_alloc] at a2
  have b2 : Below (w.heap.size + 1) (w.alloc (.cells (rcv r A n c) 57)) ((w.alloc (.cells (rcv r A n c) 57)).alloc (.cells (rcv r B m d) 57)) := (Below.refl _ _).alloc (by simp) _
  have hA := And.intro (a1.later b2 (by simp)) (And.intro a2 (b1.trans (b2.mono (by omega))))
  obtain ⟨W, hW⟩ : ∃ W, (w.alloc (.cells (rcv r A n c) 57)).alloc (.cells (rcv r B m d) 57) = W := ⟨_, rfl⟩
  rw [hW] at hA
  have ke := Lib.hid (bytes_same (hb.later hA.2.2 (Nat.le_refl _)) (hb2.later hA.2.2 (Nat.le_refl _)))
  have e0 := hA.1.name
  have e1 := hA.1.kind
  have e2 := hA.1.cls
  have e3 := hA.1.ttl
  have e4 := hA.1.target
  have e5 := hA.1.data
  have g0 := hA.2.1.name
  have g1 := hA.2.1.kind
  have g2 := hA.2.1.cls
  have g3 := hA.2.1.ttl
  have g4 := hA.2.1.target
  have g5 := hA.2.1.data
  have HA := Lib.hid hA
  have HW := Lib.hid hW
  have heq := eql_ad r.v6 r.v6 hk hk
  rw [beq_self_eq_true, beq_self_eq_true, Bool.and_true] at heq
  clear a1 a2 b1 b2 hA hW hb hb2
  go_enter Tryz.func41, Tryz.ntmps41
  go_wp2_with (first
    | (refine wpList_wanted (by rfl) (wp_load_rcAd (.tmp 32) rfl rfl HA.out.1 ?_))
    | (refine wpList_wanted (by rfl) (wp_load_rcAd (.tmp 34) rfl rfl HA.out.2.1 ?_))
    | (rw [HW.out]))
  refine ke.out.mono ?_
  rintro e w' ⟨rfl, rfl⟩
  go_wp2_with fail
  go_ret
  exact ⟨rfl, HA.out.2.2⟩
theorem port_any (v : Int) (w : World) : Calls Tryz.prog 45 #[.int .i64 v] w fun e w' => e = .returned (.int .i64 (wrap64 ((IntKind.u64.wrap v).tmod 65536))) ∧ w = w' := by
  go_enter Tryz.func45, Tryz.ntmps45
  go_wp2
  go_ret
  exact ⟨rfl, rfl⟩
end Go.Proofs.YtbikifaadpijnaaGreatDoor

namespace Go.Proofs.YtbikifaadpijnaaGreatDoor
open Go.RowKit
set_option maxRecDepth 100000

theorem wp_load_msg {o : Oper} {a : Act} {w : World} {K : Act → World → Prop} {Q : Exit → Act → World → Prop} (x : Operand) (ho : o.op = .load 26 x) {g : Nat} {mh : Mh} {sq sa su se : Sl} (hx : a.eval x = .pointer (some ⟨g, 0, none⟩)) (hA : MsBox w g mh sq sa su se)
    (h : K (a.put o.dst (.agg (msv mh sq sa su se))) w) : o.wp Tryz.prog a w K Q :=
  wp_load_mid (P := Tryz.prog) 26 x ho g 0 hx (msv mh sq sa su se).toList _ hA.range Tryz.underlying26 rfl (by simpa using ms_size mh sq sa su se) (by simpa using h)
end Go.Proofs.YtbikifaadpijnaaGreatDoor

namespace Go.Proofs.YtbikifaadpijnaaGreatDoor
open Go.RowKit
set_option maxRecDepth 100000

theorem mkS_nil {l : List UInt8} (h : l = []) : (mkS l).toList.isEmpty = true := by rw [h, Lib.toList_data, mkS_data]; rfl
theorem mkS_full {l : List UInt8} (h : l ≠ []) : (mkS l).toList.isEmpty = false := by
  rw [Lib.toList_data, mkS_data]
  cases l with
  | nil => exact absurd rfl h
  | cons _ _ => rfl
theorem two_any (v : Int) (w : World) : Calls Tryz.prog 35 #[.int .i64 v] w fun e w' => e = .returned (.bool (decide (shortI v))) ∧ w = w' := by
  unfold shortI
  by_cases h0 : 0 ≤ v
  · by_cases h1 : v ≤ 65535
    · rw [decide_eq_true (⟨h0, h1⟩ : 0 ≤ v ∧ v ≤ 65535)]
      go_enter Tryz.func35, Tryz.ntmps35
      go_wp2
      go_ret
      exact ⟨rfl, rfl⟩
    · rw [decide_eq_false (show ¬ (0 ≤ v ∧ v ≤ 65535) from fun h => h1 h.2)]
      go_enter Tryz.func35, Tryz.ntmps35
      go_wp2
      go_ret
      exact ⟨rfl, rfl⟩
  · rw [decide_eq_false (show ¬ (0 ≤ v ∧ v ≤ 65535) from fun h => h0 h.1)]
    go_enter Tryz.func35, Tryz.ntmps35
    go_wp2
    go_ret
    exact ⟨rfl, rfl⟩
set_option maxHeartbeats 8000000 in
theorem ref_rightR_addr {r : Rc} (hk : r.ok) (hkd : r.kind = 28 ∨ r.kind = 1) {A : Option Addr} {n c : Nat} {w : World} (hb : Bs w A n c r.data) (hn : r.name.length ≤ 10000) (ht : r.target.length ≤ 10000) : Calls Tryz.prog 68 #[.agg (rcv r A n c)] w fun e w' => e = .returned (.bool (decide (rightR r))) ∧ Below w.heap.size w w' := by
  have a1 := RcBox.new w hk A n c
  have b1 : Below w.heap.size w (w.alloc (.cells (rcv r A n c) 57)) := (Below.refl _ _).alloc (Nat.le_refl _) _
  obtain ⟨W, hW⟩ : ∃ W, w.alloc (.cells (rcv r A n c) 57) = W := ⟨_, rfl⟩
  rw [hW] at a1 b1
  have HA := Lib.hid (And.intro a1 b1)
  have HW := Lib.hid hW
  have d0 : ∀ w', Below W.heap.size W w' → w'.cell? ⟨w.heap.size, 0, none⟩ = some (.string (mkS r.name)) := fun w' h => (HA.out.1.later h (Nat.le_refl _)).name
  have d1 : ∀ w', Below W.heap.size W w' → w'.cell? ⟨w.heap.size, 1, none⟩ = some (.int .i64 r.kind) := fun w' h => (HA.out.1.later h (Nat.le_refl _)).kind
  have d2 : ∀ w', Below W.heap.size W w' → w'.cell? ⟨w.heap.size, 2, none⟩ = some (.int .i64 r.cls) := fun w' h => (HA.out.1.later h (Nat.le_refl _)).cls
  have d4 : ∀ w', Below W.heap.size W w' → w'.cell? ⟨w.heap.size, 4, none⟩ = some (.bool r.v6) := fun w' h => (HA.out.1.later h (Nat.le_refl _)).v6
  have d21 : ∀ w', Below W.heap.size W w' → w'.cell? ⟨w.heap.size, 21, none⟩ = some (.string (mkS r.target)) := fun w' h => (HA.out.1.later h (Nat.le_refl _)).target
  have d22 : ∀ w', Below W.heap.size W w' → w'.cell? ⟨w.heap.size, 22, none⟩ = some (.slice A n c) := fun w' h => (HA.out.1.later h (Nat.le_refl _)).data
  have KA := fun w1 => refRight_any r.v6 r.adr hk w1
  rw [rightv_dec r.v6 hk] at KA
  have KT := fun w1 => ref_right (mkS r.target) (by rw [mkS_size]; exact ht) w1
  rw [mkS_data] at KT
  have KN := fun w1 => ref_right (mkS r.name) (by rw [mkS_size]; exact hn) w1
  rw [mkS_data] at KN
  have hlen := hb.len
  clear a1 b1 hW hb
  by_cases h0 : rightN r.name
  case neg =>
    rw [decide_eq_false (show ¬ rightR r from fun h => h0 h.1.1)]
    rw [decide_eq_false h0] at KN
    have KN := Lib.hid KN
    have D0 := Lib.hid d0
    have D1 := Lib.hid d1
    have D2 := Lib.hid d2
    have e0 := d0 W (Below.refl _ _)
    rw [← HW.out] at e0
    clear d0 d1 d2
    go_enter Tryz.func68, Tryz.ntmps68
    go_wp2_with fail
    rw [HW.out]
    refine (KN.out _).mono ?_
    rintro e w1 ⟨rfl, g1⟩
    have G1 := Lib.hid g1
    have e1 := D1.out w1 g1
    have e2 := D2.out w1 g1
    clear g1
    go_wp2_with fail
    go_ret
    exact ⟨rfl, HA.out.2.trans (G1.out.mono HA.out.2.size)⟩
  by_cases h1 : shortI r.kind
  case neg =>
    rw [decide_eq_false (show ¬ rightR r from fun h => h1 h.1.2.1)]
    rw [decide_eq_true h0] at KN
    have KN := Lib.hid KN
    have D0 := Lib.hid d0
    have D1 := Lib.hid d1
    have D2 := Lib.hid d2
    have e0 := d0 W (Below.refl _ _)
    rw [← HW.out] at e0
    clear d0 d1 d2
    go_enter Tryz.func68, Tryz.ntmps68
    go_wp2_with fail
    rw [HW.out]
    refine (KN.out _).mono ?_
    rintro e w1 ⟨rfl, g1⟩
    have G1 := Lib.hid g1
    have e1 := D1.out w1 g1
    have e2 := D2.out w1 g1
    clear g1
    go_wp2_with fail
    refine (two_any _ _).mono ?_
    rintro e w2 ⟨rfl, rfl⟩
    rw [decide_eq_false h1]
    go_wp2_with fail
    go_ret
    exact ⟨rfl, HA.out.2.trans (G1.out.mono HA.out.2.size)⟩
  by_cases h2 : shortI r.cls
  case neg =>
    rw [decide_eq_false (show ¬ rightR r from fun h => h2 h.1.2.2)]
    rw [decide_eq_true h0] at KN
    have KN := Lib.hid KN
    have D0 := Lib.hid d0
    have D1 := Lib.hid d1
    have D2 := Lib.hid d2
    have e0 := d0 W (Below.refl _ _)
    rw [← HW.out] at e0
    clear d0 d1 d2
    go_enter Tryz.func68, Tryz.ntmps68
    go_wp2_with fail
    rw [HW.out]
    refine (KN.out _).mono ?_
    rintro e w1 ⟨rfl, g1⟩
    have G1 := Lib.hid g1
    have e1 := D1.out w1 g1
    have e2 := D2.out w1 g1
    clear g1
    go_wp2_with fail
    refine (two_any _ _).mono ?_
    rintro e w2 ⟨rfl, rfl⟩
    rw [decide_eq_true h1]
    go_wp2_with fail
    refine (two_any _ _).mono ?_
    rintro e w2 ⟨rfl, rfl⟩
    rw [decide_eq_false h2]
    go_wp2_with fail
    go_ret
    exact ⟨rfl, HA.out.2.trans (G1.out.mono HA.out.2.size)⟩
  rw [decide_eq_true h0] at KN
  by_cases k28 : r.kind = 28
  · rw [k28] at d1 h1
    have hc : rightR r → r.v6 = true ∧ r.target = [] ∧ r.data = [] := fun h => by
      rcases alike_cases h with x | x | x | x
      · exact x.2
      · omega
      · omega
      · omega
    by_cases ha : rightA r.v6 r.adr
    case neg =>
      by_cases hv : r.v6 = true
      case pos =>
        rw [decide_eq_false (show ¬ rightR r from fun h => ha h.2.1)]
        rw [decide_eq_false ha] at KA
        rw [hv] at d4 KA
        have KN := Lib.hid KN
        have KA := Lib.hid KA
        have KT := Lib.hid KT
        have D0 := Lib.hid d0
        have D1 := Lib.hid d1
        have D2 := Lib.hid d2
        have D4 := Lib.hid d4
        have D21 := Lib.hid d21
        have D22 := Lib.hid d22
        have e0 := d0 W (Below.refl _ _)
        rw [← HW.out] at e0
        clear d0 d1 d2 d4 d21 d22
        go_enter Tryz.func68, Tryz.ntmps68
        go_wp2_with fail
        rw [HW.out]
        refine (KN.out _).mono ?_
        rintro e w1 ⟨rfl, g1⟩
        have G1 := Lib.hid g1
        have e1 := D1.out w1 g1
        have e2 := D2.out w1 g1
        clear g1
        go_wp2_with fail
        refine (two_any _ _).mono ?_
        rintro e w2 ⟨rfl, rfl⟩
        rw [decide_eq_true h1]
        go_wp2_with fail
        refine (two_any _ _).mono ?_
        rintro e w2 ⟨rfl, rfl⟩
        rw [decide_eq_true h2]
        have R1 := Lib.hid (HA.out.1.later G1.out (Nat.le_refl _))
        go_wp2_with (refine wpList_load_rcAd rfl (.tmp 24) rfl rfl R1.out ?_)
        refine (KA.out _).mono ?_
        rintro e w3 ⟨rfl, g3⟩
        have G3 := Lib.hid (G1.out.trans (g3.mono G1.out.size))
        have f1 := D1.out w3 G3.out
        have f4 := D4.out w3 G3.out
        have f21 := D21.out w3 G3.out
        have f22 := D22.out w3 G3.out
        clear g3 e1 e2
        go_wp2_with fail
        go_ret
        exact ⟨rfl, HA.out.2.trans (G3.out.mono HA.out.2.size)⟩
      replace hv := eq_false_of_ne_true hv
      rw [decide_eq_false (show ¬ rightR r from fun h => ha h.2.1)]
      rw [decide_eq_false ha] at KA
      rw [hv] at d4 KA
      have KN := Lib.hid KN
      have KA := Lib.hid KA
      have KT := Lib.hid KT
      have D0 := Lib.hid d0
      have D1 := Lib.hid d1
      have D2 := Lib.hid d2
      have D4 := Lib.hid d4
      have D21 := Lib.hid d21
      have D22 := Lib.hid d22
      have e0 := d0 W (Below.refl _ _)
      rw [← HW.out] at e0
      clear d0 d1 d2 d4 d21 d22
      go_enter Tryz.func68, Tryz.ntmps68
      go_wp2_with fail
      rw [HW.out]
      refine (KN.out _).mono ?_
      rintro e w1 ⟨rfl, g1⟩
      have G1 := Lib.hid g1
      have e1 := D1.out w1 g1
      have e2 := D2.out w1 g1
      clear g1
      go_wp2_with fail
      refine (two_any _ _).mono ?_
      rintro e w2 ⟨rfl, rfl⟩
      rw [decide_eq_true h1]
      go_wp2_with fail
      refine (two_any _ _).mono ?_
      rintro e w2 ⟨rfl, rfl⟩
      rw [decide_eq_true h2]
      have R1 := Lib.hid (HA.out.1.later G1.out (Nat.le_refl _))
      go_wp2_with (refine wpList_load_rcAd rfl (.tmp 24) rfl rfl R1.out ?_)
      refine (KA.out _).mono ?_
      rintro e w3 ⟨rfl, g3⟩
      have G3 := Lib.hid (G1.out.trans (g3.mono G1.out.size))
      have f1 := D1.out w3 G3.out
      have f4 := D4.out w3 G3.out
      have f21 := D21.out w3 G3.out
      have f22 := D22.out w3 G3.out
      clear g3 e1 e2
      go_wp2_with fail
      go_ret
      exact ⟨rfl, HA.out.2.trans (G3.out.mono HA.out.2.size)⟩
    rw [decide_eq_true ha] at KA
    by_cases hv : r.v6 = true
    case neg =>
      have hv2 : r.v6 = false := by cases hq : r.v6 <;> simp_all
      rw [decide_eq_false (show ¬ rightR r from fun h => hv (hc h).1)]
      rw [hv2] at d4 KA
      have KN := Lib.hid KN
      have KA := Lib.hid KA
      have KT := Lib.hid KT
      have D0 := Lib.hid d0
      have D1 := Lib.hid d1
      have D2 := Lib.hid d2
      have D4 := Lib.hid d4
      have D21 := Lib.hid d21
      have D22 := Lib.hid d22
      have e0 := d0 W (Below.refl _ _)
      rw [← HW.out] at e0
      clear d0 d1 d2 d4 d21 d22
      go_enter Tryz.func68, Tryz.ntmps68
      go_wp2_with fail
      rw [HW.out]
      refine (KN.out _).mono ?_
      rintro e w1 ⟨rfl, g1⟩
      have G1 := Lib.hid g1
      have e1 := D1.out w1 g1
      have e2 := D2.out w1 g1
      clear g1
      go_wp2_with fail
      refine (two_any _ _).mono ?_
      rintro e w2 ⟨rfl, rfl⟩
      rw [decide_eq_true h1]
      go_wp2_with fail
      refine (two_any _ _).mono ?_
      rintro e w2 ⟨rfl, rfl⟩
      rw [decide_eq_true h2]
      have R1 := Lib.hid (HA.out.1.later G1.out (Nat.le_refl _))
      go_wp2_with (refine wpList_load_rcAd rfl (.tmp 24) rfl rfl R1.out ?_)
      refine (KA.out _).mono ?_
      rintro e w3 ⟨rfl, g3⟩
      have G3 := Lib.hid (G1.out.trans (g3.mono G1.out.size))
      have f1 := D1.out w3 G3.out
      have f4 := D4.out w3 G3.out
      have f21 := D21.out w3 G3.out
      have f22 := D22.out w3 G3.out
      clear g3 e1 e2
      go_wp2_with fail
      go_ret
      exact ⟨rfl, HA.out.2.trans (G3.out.mono HA.out.2.size)⟩
    rw [hv] at d4 KA
    by_cases hq : r.target = []
    case neg =>
      have he := mkS_full hq
      rw [decide_eq_false (show ¬ rightR r from fun h => hq (hc h).2.1)]
      have KN := Lib.hid KN
      have KA := Lib.hid KA
      have KT := Lib.hid KT
      have D0 := Lib.hid d0
      have D1 := Lib.hid d1
      have D2 := Lib.hid d2
      have D4 := Lib.hid d4
      have D21 := Lib.hid d21
      have D22 := Lib.hid d22
      have e0 := d0 W (Below.refl _ _)
      rw [← HW.out] at e0
      clear d0 d1 d2 d4 d21 d22
      go_enter Tryz.func68, Tryz.ntmps68
      go_wp2_with fail
      rw [HW.out]
      refine (KN.out _).mono ?_
      rintro e w1 ⟨rfl, g1⟩
      have G1 := Lib.hid g1
      have e1 := D1.out w1 g1
      have e2 := D2.out w1 g1
      clear g1
      go_wp2_with fail
      refine (two_any _ _).mono ?_
      rintro e w2 ⟨rfl, rfl⟩
      rw [decide_eq_true h1]
      go_wp2_with fail
      refine (two_any _ _).mono ?_
      rintro e w2 ⟨rfl, rfl⟩
      rw [decide_eq_true h2]
      have R1 := Lib.hid (HA.out.1.later G1.out (Nat.le_refl _))
      go_wp2_with (refine wpList_load_rcAd rfl (.tmp 24) rfl rfl R1.out ?_)
      refine (KA.out _).mono ?_
      rintro e w3 ⟨rfl, g3⟩
      have G3 := Lib.hid (G1.out.trans (g3.mono G1.out.size))
      have f1 := D1.out w3 G3.out
      have f4 := D4.out w3 G3.out
      have f21 := D21.out w3 G3.out
      have f22 := D22.out w3 G3.out
      clear g3 e1 e2
      go_wp2_with fail
      go_ret
      exact ⟨rfl, HA.out.2.trans (G3.out.mono HA.out.2.size)⟩
    have he := mkS_nil hq
    by_cases hz : n = 0
    case neg =>
      rw [decide_eq_false (show ¬ rightR r from fun h => hz (by rw [← hlen, (hc h).2.2]; rfl))]
      have hzz : ((n : Int) == 0) = false := by rw [beq_eq_false_iff_ne]; omega
      clear hq
      have KN := Lib.hid KN
      have KA := Lib.hid KA
      have KT := Lib.hid KT
      have D0 := Lib.hid d0
      have D1 := Lib.hid d1
      have D2 := Lib.hid d2
      have D4 := Lib.hid d4
      have D21 := Lib.hid d21
      have D22 := Lib.hid d22
      have e0 := d0 W (Below.refl _ _)
      rw [← HW.out] at e0
      clear d0 d1 d2 d4 d21 d22
      go_enter Tryz.func68, Tryz.ntmps68
      go_wp2_with fail
      rw [HW.out]
      refine (KN.out _).mono ?_
      rintro e w1 ⟨rfl, g1⟩
      have G1 := Lib.hid g1
      have e1 := D1.out w1 g1
      have e2 := D2.out w1 g1
      clear g1
      go_wp2_with fail
      refine (two_any _ _).mono ?_
      rintro e w2 ⟨rfl, rfl⟩
      rw [decide_eq_true h1]
      go_wp2_with fail
      refine (two_any _ _).mono ?_
      rintro e w2 ⟨rfl, rfl⟩
      rw [decide_eq_true h2]
      have R1 := Lib.hid (HA.out.1.later G1.out (Nat.le_refl _))
      go_wp2_with (refine wpList_load_rcAd rfl (.tmp 24) rfl rfl R1.out ?_)
      refine (KA.out _).mono ?_
      rintro e w3 ⟨rfl, g3⟩
      have G3 := Lib.hid (G1.out.trans (g3.mono G1.out.size))
      have f1 := D1.out w3 G3.out
      have f4 := D4.out w3 G3.out
      have f21 := D21.out w3 G3.out
      have f22 := D22.out w3 G3.out
      clear g3 e1 e2
      go_wp2_with fail
      go_ret
      exact ⟨rfl, HA.out.2.trans (G3.out.mono HA.out.2.size)⟩
    have hd0 : r.data = [] := List.length_eq_zero_iff.1 (by omega)
    have hR : rightR r := ⟨⟨h0, (by show shortI r.kind; rw [k28]; exact h1), h2⟩, ha, (by rw [hq]; decide), (by rw [hd0]; decide), (by unfold alikeV bareV; rw [if_pos k28]; exact ⟨⟨hv, rfl⟩, hq, hd0⟩)⟩
    rw [decide_eq_true hR]
    rw [hz] at d22
    clear hz hR hd0 hc hlen hq
    have KN := Lib.hid KN
    have KA := Lib.hid KA
    have KT := Lib.hid KT
    have D0 := Lib.hid d0
    have D1 := Lib.hid d1
    have D2 := Lib.hid d2
    have D4 := Lib.hid d4
    have D21 := Lib.hid d21
    have D22 := Lib.hid d22
    have e0 := d0 W (Below.refl _ _)
    rw [← HW.out] at e0
    clear d0 d1 d2 d4 d21 d22
    go_enter Tryz.func68, Tryz.ntmps68
    go_wp2_with fail
    rw [HW.out]
    refine (KN.out _).mono ?_
    rintro e w1 ⟨rfl, g1⟩
    have G1 := Lib.hid g1
    have e1 := D1.out w1 g1
    have e2 := D2.out w1 g1
    clear g1
    go_wp2_with fail
    refine (two_any _ _).mono ?_
    rintro e w2 ⟨rfl, rfl⟩
    rw [decide_eq_true h1]
    go_wp2_with fail
    refine (two_any _ _).mono ?_
    rintro e w2 ⟨rfl, rfl⟩
    rw [decide_eq_true h2]
    have R1 := Lib.hid (HA.out.1.later G1.out (Nat.le_refl _))
    go_wp2_with (refine wpList_load_rcAd rfl (.tmp 24) rfl rfl R1.out ?_)
    refine (KA.out _).mono ?_
    rintro e w3 ⟨rfl, g3⟩
    have G3 := Lib.hid (G1.out.trans (g3.mono G1.out.size))
    have f1 := D1.out w3 G3.out
    have f4 := D4.out w3 G3.out
    have f21 := D21.out w3 G3.out
    have f22 := D22.out w3 G3.out
    clear g3 e1 e2
    go_wp2_with fail
    go_ret
    exact ⟨rfl, HA.out.2.trans (G3.out.mono HA.out.2.size)⟩
  by_cases k1 : r.kind = 1
  · rw [k1] at d1 h1
    have hc : rightR r → r.v6 = false ∧ r.target = [] ∧ r.data = [] := fun h => by
      rcases alike_cases h with x | x | x | x
      · omega
      · exact x.2
      · omega
      · omega
    by_cases ha : rightA r.v6 r.adr
    case neg =>
      by_cases hv : r.v6 = true
      case pos =>
        rw [decide_eq_false (show ¬ rightR r from fun h => ha h.2.1)]
        rw [decide_eq_false ha] at KA
        rw [hv] at d4 KA
        have KN := Lib.hid KN
        have KA := Lib.hid KA
        have KT := Lib.hid KT
        have D0 := Lib.hid d0
        have D1 := Lib.hid d1
        have D2 := Lib.hid d2
        have D4 := Lib.hid d4
        have D21 := Lib.hid d21
        have D22 := Lib.hid d22
        have e0 := d0 W (Below.refl _ _)
        rw [← HW.out] at e0
        clear d0 d1 d2 d4 d21 d22
        go_enter Tryz.func68, Tryz.ntmps68
        go_wp2_with fail
        rw [HW.out]
        refine (KN.out _).mono ?_
        rintro e w1 ⟨rfl, g1⟩
        have G1 := Lib.hid g1
        have e1 := D1.out w1 g1
        have e2 := D2.out w1 g1
        clear g1
        go_wp2_with fail
        refine (two_any _ _).mono ?_
        rintro e w2 ⟨rfl, rfl⟩
        rw [decide_eq_true h1]
        go_wp2_with fail
        refine (two_any _ _).mono ?_
        rintro e w2 ⟨rfl, rfl⟩
        rw [decide_eq_true h2]
        have R1 := Lib.hid (HA.out.1.later G1.out (Nat.le_refl _))
        go_wp2_with (refine wpList_load_rcAd rfl (.tmp 24) rfl rfl R1.out ?_)
        refine (KA.out _).mono ?_
        rintro e w3 ⟨rfl, g3⟩
        have G3 := Lib.hid (G1.out.trans (g3.mono G1.out.size))
        have f1 := D1.out w3 G3.out
        have f4 := D4.out w3 G3.out
        have f21 := D21.out w3 G3.out
        have f22 := D22.out w3 G3.out
        clear g3 e1 e2
        go_wp2_with fail
        go_ret
        exact ⟨rfl, HA.out.2.trans (G3.out.mono HA.out.2.size)⟩
      replace hv := eq_false_of_ne_true hv
      rw [decide_eq_false (show ¬ rightR r from fun h => ha h.2.1)]
      rw [decide_eq_false ha] at KA
      rw [hv] at d4 KA
      have KN := Lib.hid KN
      have KA := Lib.hid KA
      have KT := Lib.hid KT
      have D0 := Lib.hid d0
      have D1 := Lib.hid d1
      have D2 := Lib.hid d2
      have D4 := Lib.hid d4
      have D21 := Lib.hid d21
      have D22 := Lib.hid d22
      have e0 := d0 W (Below.refl _ _)
      rw [← HW.out] at e0
      clear d0 d1 d2 d4 d21 d22
      go_enter Tryz.func68, Tryz.ntmps68
      go_wp2_with fail
      rw [HW.out]
      refine (KN.out _).mono ?_
      rintro e w1 ⟨rfl, g1⟩
      have G1 := Lib.hid g1
      have e1 := D1.out w1 g1
      have e2 := D2.out w1 g1
      clear g1
      go_wp2_with fail
      refine (two_any _ _).mono ?_
      rintro e w2 ⟨rfl, rfl⟩
      rw [decide_eq_true h1]
      go_wp2_with fail
      refine (two_any _ _).mono ?_
      rintro e w2 ⟨rfl, rfl⟩
      rw [decide_eq_true h2]
      have R1 := Lib.hid (HA.out.1.later G1.out (Nat.le_refl _))
      go_wp2_with (refine wpList_load_rcAd rfl (.tmp 24) rfl rfl R1.out ?_)
      refine (KA.out _).mono ?_
      rintro e w3 ⟨rfl, g3⟩
      have G3 := Lib.hid (G1.out.trans (g3.mono G1.out.size))
      have f1 := D1.out w3 G3.out
      have f4 := D4.out w3 G3.out
      have f21 := D21.out w3 G3.out
      have f22 := D22.out w3 G3.out
      clear g3 e1 e2
      go_wp2_with fail
      go_ret
      exact ⟨rfl, HA.out.2.trans (G3.out.mono HA.out.2.size)⟩
    rw [decide_eq_true ha] at KA
    by_cases hv : r.v6 = false
    case neg =>
      have hv2 : r.v6 = true := by cases hq : r.v6 <;> simp_all
      rw [decide_eq_false (show ¬ rightR r from fun h => hv (hc h).1)]
      rw [hv2] at d4 KA
      have KN := Lib.hid KN
      have KA := Lib.hid KA
      have KT := Lib.hid KT
      have D0 := Lib.hid d0
      have D1 := Lib.hid d1
      have D2 := Lib.hid d2
      have D4 := Lib.hid d4
      have D21 := Lib.hid d21
      have D22 := Lib.hid d22
      have e0 := d0 W (Below.refl _ _)
      rw [← HW.out] at e0
      clear d0 d1 d2 d4 d21 d22
      go_enter Tryz.func68, Tryz.ntmps68
      go_wp2_with fail
      rw [HW.out]
      refine (KN.out _).mono ?_
      rintro e w1 ⟨rfl, g1⟩
      have G1 := Lib.hid g1
      have e1 := D1.out w1 g1
      have e2 := D2.out w1 g1
      clear g1
      go_wp2_with fail
      refine (two_any _ _).mono ?_
      rintro e w2 ⟨rfl, rfl⟩
      rw [decide_eq_true h1]
      go_wp2_with fail
      refine (two_any _ _).mono ?_
      rintro e w2 ⟨rfl, rfl⟩
      rw [decide_eq_true h2]
      have R1 := Lib.hid (HA.out.1.later G1.out (Nat.le_refl _))
      go_wp2_with (refine wpList_load_rcAd rfl (.tmp 24) rfl rfl R1.out ?_)
      refine (KA.out _).mono ?_
      rintro e w3 ⟨rfl, g3⟩
      have G3 := Lib.hid (G1.out.trans (g3.mono G1.out.size))
      have f1 := D1.out w3 G3.out
      have f4 := D4.out w3 G3.out
      have f21 := D21.out w3 G3.out
      have f22 := D22.out w3 G3.out
      clear g3 e1 e2
      go_wp2_with fail
      go_ret
      exact ⟨rfl, HA.out.2.trans (G3.out.mono HA.out.2.size)⟩
    rw [hv] at d4 KA
    by_cases hq : r.target = []
    case neg =>
      have he := mkS_full hq
      rw [decide_eq_false (show ¬ rightR r from fun h => hq (hc h).2.1)]
      have KN := Lib.hid KN
      have KA := Lib.hid KA
      have KT := Lib.hid KT
      have D0 := Lib.hid d0
      have D1 := Lib.hid d1
      have D2 := Lib.hid d2
      have D4 := Lib.hid d4
      have D21 := Lib.hid d21
      have D22 := Lib.hid d22
      have e0 := d0 W (Below.refl _ _)
      rw [← HW.out] at e0
      clear d0 d1 d2 d4 d21 d22
      go_enter Tryz.func68, Tryz.ntmps68
      go_wp2_with fail
      rw [HW.out]
      refine (KN.out _).mono ?_
      rintro e w1 ⟨rfl, g1⟩
      have G1 := Lib.hid g1
      have e1 := D1.out w1 g1
      have e2 := D2.out w1 g1
      clear g1
      go_wp2_with fail
      refine (two_any _ _).mono ?_
      rintro e w2 ⟨rfl, rfl⟩
      rw [decide_eq_true h1]
      go_wp2_with fail
      refine (two_any _ _).mono ?_
      rintro e w2 ⟨rfl, rfl⟩
      rw [decide_eq_true h2]
      have R1 := Lib.hid (HA.out.1.later G1.out (Nat.le_refl _))
      go_wp2_with (refine wpList_load_rcAd rfl (.tmp 24) rfl rfl R1.out ?_)
      refine (KA.out _).mono ?_
      rintro e w3 ⟨rfl, g3⟩
      have G3 := Lib.hid (G1.out.trans (g3.mono G1.out.size))
      have f1 := D1.out w3 G3.out
      have f4 := D4.out w3 G3.out
      have f21 := D21.out w3 G3.out
      have f22 := D22.out w3 G3.out
      clear g3 e1 e2
      go_wp2_with fail
      go_ret
      exact ⟨rfl, HA.out.2.trans (G3.out.mono HA.out.2.size)⟩
    have he := mkS_nil hq
    by_cases hz : n = 0
    case neg =>
      rw [decide_eq_false (show ¬ rightR r from fun h => hz (by rw [← hlen, (hc h).2.2]; rfl))]
      have hzz : ((n : Int) == 0) = false := by rw [beq_eq_false_iff_ne]; omega
      clear hq
      have KN := Lib.hid KN
      have KA := Lib.hid KA
      have KT := Lib.hid KT
      have D0 := Lib.hid d0
      have D1 := Lib.hid d1
      have D2 := Lib.hid d2
      have D4 := Lib.hid d4
      have D21 := Lib.hid d21
      have D22 := Lib.hid d22
      have e0 := d0 W (Below.refl _ _)
      rw [← HW.out] at e0
      clear d0 d1 d2 d4 d21 d22
      go_enter Tryz.func68, Tryz.ntmps68
      go_wp2_with fail
      rw [HW.out]
      refine (KN.out _).mono ?_
      rintro e w1 ⟨rfl, g1⟩
      have G1 := Lib.hid g1
      have e1 := D1.out w1 g1
      have e2 := D2.out w1 g1
      clear g1
      go_wp2_with fail
      refine (two_any _ _).mono ?_
      rintro e w2 ⟨rfl, rfl⟩
      rw [decide_eq_true h1]
      go_wp2_with fail
      refine (two_any _ _).mono ?_
      rintro e w2 ⟨rfl, rfl⟩
      rw [decide_eq_true h2]
      have R1 := Lib.hid (HA.out.1.later G1.out (Nat.le_refl _))
      go_wp2_with (refine wpList_load_rcAd rfl (.tmp 24) rfl rfl R1.out ?_)
      refine (KA.out _).mono ?_
      rintro e w3 ⟨rfl, g3⟩
      have G3 := Lib.hid (G1.out.trans (g3.mono G1.out.size))
      have f1 := D1.out w3 G3.out
      have f4 := D4.out w3 G3.out
      have f21 := D21.out w3 G3.out
      have f22 := D22.out w3 G3.out
      clear g3 e1 e2
      go_wp2_with fail
      go_ret
      exact ⟨rfl, HA.out.2.trans (G3.out.mono HA.out.2.size)⟩
    have hd0 : r.data = [] := List.length_eq_zero_iff.1 (by omega)
    have hR : rightR r := ⟨⟨h0, (by show shortI r.kind; rw [k1]; exact h1), h2⟩, ha, (by rw [hq]; decide), (by rw [hd0]; decide), (by unfold alikeV bareV; rw [if_neg k28, if_pos k1]; exact ⟨⟨hv, rfl⟩, hq, hd0⟩)⟩
    rw [decide_eq_true hR]
    rw [hz] at d22
    clear hz hR hd0 hc hlen hq
    have KN := Lib.hid KN
    have KA := Lib.hid KA
    have KT := Lib.hid KT
    have D0 := Lib.hid d0
    have D1 := Lib.hid d1
    have D2 := Lib.hid d2
    have D4 := Lib.hid d4
    have D21 := Lib.hid d21
    have D22 := Lib.hid d22
    have e0 := d0 W (Below.refl _ _)
    rw [← HW.out] at e0
    clear d0 d1 d2 d4 d21 d22
    go_enter Tryz.func68, Tryz.ntmps68
    go_wp2_with fail
    rw [HW.out]
    refine (KN.out _).mono ?_
    rintro e w1 ⟨rfl, g1⟩
    have G1 := Lib.hid g1
    have e1 := D1.out w1 g1
    have e2 := D2.out w1 g1
    clear g1
    go_wp2_with fail
    refine (two_any _ _).mono ?_
    rintro e w2 ⟨rfl, rfl⟩
    rw [decide_eq_true h1]
    go_wp2_with fail
    refine (two_any _ _).mono ?_
    rintro e w2 ⟨rfl, rfl⟩
    rw [decide_eq_true h2]
    have R1 := Lib.hid (HA.out.1.later G1.out (Nat.le_refl _))
    go_wp2_with (refine wpList_load_rcAd rfl (.tmp 24) rfl rfl R1.out ?_)
    refine (KA.out _).mono ?_
    rintro e w3 ⟨rfl, g3⟩
    have G3 := Lib.hid (G1.out.trans (g3.mono G1.out.size))
    have f1 := D1.out w3 G3.out
    have f4 := D4.out w3 G3.out
    have f21 := D21.out w3 G3.out
    have f22 := D22.out w3 G3.out
    clear g3 e1 e2
    go_wp2_with fail
    go_ret
    exact ⟨rfl, HA.out.2.trans (G3.out.mono HA.out.2.size)⟩
  rcases hkd with h | h
  · exact absurd h k28
  · exact absurd h k1
end Go.Proofs.YtbikifaadpijnaaGreatDoor
