/-
  ExpiryFull: as many as may be, and no more; a nil queue. Conditions: errors.errorType holds the handle of the type error.
-/
import Derived.Test.YtdpmjbhkmfjpfaaDoorSq17
import Derived.IntWalk
namespace Go.Proofs.YtdpmjbhkmfjpfaaDoor
open Go.RowKit
set_option maxRecDepth 100000

theorem rep_get (t : Int) {k : Nat} (h : k < 50) : (List.replicate 50 t).getD k 0 = t := by
  rw [List.getD_eq_getElem?_getD, List.getElem?_replicate, if_pos h]; rfl
theorem full_has (t : Int) (m : Nat) (id : Int) : hasV (ents (List.replicate 50 t) m) id = decide (0 ≤ id ∧ id < m) := by
  by_cases h : 0 ≤ id ∧ id < m
  · rw [decide_eq_true h]
    refine hasV_iff.2 ⟨_, ents_of (i := id.toNat) (by omega), ?_⟩
    show ((id.toNat : Nat) : Int) = id
    omega
  · rw [decide_eq_false h]
    refine Bool.eq_false_iff.2 fun h2 => ?_
    obtain ⟨e, he, h3⟩ := hasV_iff.1 h2
    obtain ⟨i, hi, rfl⟩ := ents_mem he
    dsimp only at h3
    omega
theorem full_push (t : Int) (m : Nat) (id : Int) : pushE m (ents (List.replicate 50 t) m) id = if 0 ≤ id ∧ id < m then 19 else 18 := by
  unfold pushE
  rw [full_has, ents_length]
  by_cases h : 0 ≤ id ∧ id < m
  · rw [decide_eq_true h, if_pos h]; rfl
  · rw [decide_eq_false h, if_neg h, if_neg (by simp), if_pos (Nat.le_refl m)]
theorem push_same {cap : Nat} {L : List En} {id : Int} (t : Int) (h : pushE cap L id ≠ 0) : pushL cap L id t = L := by
  unfold pushL
  rw [if_neg h]
--<< walk
set_option maxHeartbeats 4000000 in
theorem expiryFull (n id t : Int) {w : World} (hg : Handle w) : Calls Tryd.prog 4 #[.int .i64 n, .int .i64 id, .int .u64 t] w fun e w' => e = .returned (.bool true) ∧ Below w.heap.size w w' := by
  obtain ⟨q1, q2⟩ := num_mod17 n 50 (by omega) (by omega)
  have K3 := Lib.hid fun w1 => awake17 w1
  obtain ⟨x, hx⟩ : ∃ x, x = wrap64 ((IntKind.u64.wrap n).tmod 50) := ⟨_, rfl⟩
  rw [← hx] at q1 q2
  obtain ⟨m, rfl⟩ : ∃ m : Nat, x = (m : Int) := ⟨x.toNat, by omega⟩
  have hm : m < 50 := by omega
  have K1 := Lib.hid (new_L (m : Int) w)
  rw [heldV_nat (by omega)] at K1
  have HX := Lib.hid hx
  have HG := Lib.hid hg
  clear hx q1 q2 hg
  go_enter Tryd.func4, Tryd.ntmps4
  go_wp2_with (rw [← HX.out])
  try rw [← HX.out]
  refine K1.out.mono ?_
  rintro e w1 ⟨rfl, h1, b1⟩
  have hSq : Sq m w w1 w.heap.size [] := ⟨none, h1, ⟨Nat.le_refl _, fun b hb => by cases hb⟩, b1⟩
  obtain ⟨g, hgg⟩ : ∃ g, g = w.heap.size := ⟨_, rfl⟩
  rw [← hgg] at hSq ⊢
  have HS := Lib.hid hSq
  clear hSq h1 b1 hgg K1 HX
  go_wp2_with fail
  refine (K3.out w1).mono ?_
  rintro e w3 ⟨rfl, b3⟩
  have HS3 := Lib.hid (HS.out.later b3)
  clear b3 K3 HS
  go_wp2_with fail
  go_loopw [8] (fun i wr => ∃ k : Nat, k ≤ m ∧ i = .int .i64 k ∧ Sq m w wr g (ents (List.replicate 50 t) k)) (fun i _ => m - (intOf i).toNat)
  case atStart => exact ⟨0, Nat.zero_le _, rfl, HS3.out⟩
  case round =>
    obtain ⟨k, hk, rfl, hst⟩ := hrel
    have HS := Lib.hid hst
    clear hst HS3
    by_cases hkn : k < m
    · have hpe := ents_push (l := List.replicate 50 t) (k := k) (cap := m) hkn
      rw [rep_get t (by omega)] at hpe
      have hlen := ents_length (List.replicate 50 t) k
      have KP := Lib.hid (HS.out.push (by omega) (k : Int) t)
      rw [hpe.1, hpe.2] at KP
      unfold resV at KP
      rw [if_pos rfl] at KP
      clear hpe hlen
      go_wp2_with (refine KP.out.mono ?_; rintro e w4 ⟨rfl, s4⟩)
      refine ⟨⟨k + 1, hkn, by go_num, s4⟩, by simp [intOf]; omega⟩
    · obtain rfl : k = m := by omega
      clear hk hkn
      have KN := Lib.hid (next_nil wr)
      have KA : Hid (∀ w1, Calls Tryd.prog 20 #[.pointer none, .int .i64 id] w1 fun e w' => e = .returned (.tuple #[.int .u64 0, .bool false]) ∧ Below w1.heap.size w1 w') := fun w1 => at_nil id w1
      have KB := Lib.hid fun (c : Int) (w1 : World) => help_bare c w1
      have hb0 := HS.out.below
      have HB0 := Lib.hid hb0
      clear hb0
      unfold nextR at KN
      have hkk : ¬ ((k : Int) < (k : Int)) := by omega
      have HE := Lib.hid (full_push t k id)
      by_cases hneg : id < 0
      · have hc0 : ¬ (0 ≤ id) := by omega
        rw [if_neg (by omega)] at HE
        go_wp2_with (first
          | (refine KN.out.mono ?_; rintro e w4 ⟨rfl, b4⟩)
          | (go_at_call 20; refine (KA.out _).mono ?_; rintro e w5 ⟨rfl, b5⟩)
          | (go_at_call 22; refine (KB.out 18 _).mono ?_; rintro e w6 ⟨rfl, b6⟩))
        have b45 : Below wr.heap.size wr w5 := (b4.alloc b4.size _).trans (b5.mono (b4.alloc b4.size _).size)
        have b456 : Below wr.heap.size wr w6 := b45.trans (b6.mono b45.size)
        have hZ : (w6.alloc (.cells #[.int .i64 18, .int .i64 0, .bool false] 39)).heap[w6.heap.size]? = some (.cells #[.int .i64 18, .int .i64 0, .bool false] 39 (0, 0)) := heap_alloc_new w6 _
        have bW : Below wr.heap.size wr (w6.alloc (.cells #[.int .i64 18, .int .i64 0, .bool false] 39)) := b456.alloc b456.size _
        obtain ⟨W, hW⟩ : ∃ W, w6.alloc (.cells #[.int .i64 18, .int .i64 0, .bool false] 39) = W := ⟨_, rfl⟩
        rw [hW] at hZ bW ⊢
        obtain ⟨Z, hZe⟩ : ∃ Z, Z = w6.heap.size := ⟨_, rfl⟩
        rw [← hZe] at hZ ⊢
        have hZw : wr.heap.size ≤ Z := hZe ▸ b456.size
        have hrg : W.rangeAt Z 0 [.int .i64 18, .int .i64 0, .bool false] := fun j v hj => by
          rw [Nat.zero_add, cell_of_row W Z _ _ _ _ hZ, ← Array.getElem?_toList]
          exact hj
        have HQ := Lib.hid (HS.out.later bW)
        have HWB := Lib.hid (HB0.out.trans (bW.mono HB0.out.size))
        have bW2 := Lib.hid bW
        have hlZ : Z < W.heap.size := (Array.getElem?_eq_some_iff.1 hZ).1
        clear hW hZe b4 b5 b6 b45 b456 hZ
        obtain ⟨S, hSd⟩ : ∃ S : World → Prop, S = fun w' => w'.rangeAt Z 0 [.int .i64 18, .int .i64 0, .bool false] ∧ Z < w'.heap.size := ⟨_, rfl⟩
        have hS : Kp S W.drew := by unfold Kp; rw [hSd]; exact ⟨hrg, hlZ⟩
        have hSb : ∀ w1 w2, Kp S w1 → Below w1.heap.size w1 w2 → Kp S w2 := fun w1 w2 h hb => by
          unfold Kp at h ⊢
          rw [hSd] at h ⊢
          exact ⟨range_later h.1 hb (Nat.le_refl _), Nat.lt_of_lt_of_le h.2 hb.size⟩
        have hS1 : ∀ w', Kp S w' → w'.rangeAt Z 0 [.int .i64 18, .int .i64 0, .bool false] := fun w' h => by unfold Kp at h; rw [hSd] at h; exact h.1
        have HSB := Lib.hid (And.intro hSb hS1)
        have HSd := Lib.hid hSd
        clear hSb hS1 hSd hrg bW hlZ
        have KR := Lib.hid fun (w1 : World) (hb : Below w.heap.size w w1) (c : Int) => is_res (HG.out.later hb (Nat.le_refl _)) id c
        have KR2 := Lib.hid fun (w1 : World) (hb : Below w.heap.size w w1) (i c : Int) => is_res (HG.out.later hb (Nat.le_refl _)) i c
        have KR3 := Lib.hid fun (w1 : World) (hb : Below w.heap.size w w1) => is_ref (HG.out.later hb (Nat.le_refl _)) id 2 (by decide)
        have KN1 := Lib.hid fun w1 => push_nil id t w1
        have KN2 := Lib.hid fun w1 => move_nil id t w1
        have KN3 := Lib.hid fun w1 => cancel_nil id w1
        have KN4 := Lib.hid fun w1 => due_nil t w1
        have KN5 := Lib.hid fun w1 => len_nil w1
        obtain ⟨ob, hq, hlo, _⟩ := HS.out
        have hoZ : ob ≠ some Z := fun e => by have := hq.lto e; omega
        have hgZ : Z ≠ g := fun e => by have := hq.lt; omega
        replace hq := hq.later bW2.out (Nat.le_refl _)
        have hle : (ents (List.replicate 50 t) k).length = k := ents_length _ _
        go_wp2_with fail
        refine rg_begin (Kp S) 57 (by kernel_rfl) rfl ?_
        have hB : Below w.heap.size w W.drew := below_of_drew HWB.out
        have hqd : QL W.drew g ob k (ents (List.replicate 50 t) k) := hq.later (below_of_drew (Below.refl W.heap.size W)) (Nat.le_refl _)
        have hZd : Z < W.drew.heap.size := by unfold Kp at hS; rw [HSd.out] at hS; exact hS.2
        obtain ⟨W0, hW0⟩ : ∃ W0, W.drew = W0 := ⟨_, rfl⟩
        rw [hW0] at hS hB hqd hZd ⊢
        clear hW0 hq
        refine rg_take 0 (v := ?rv1) rfl (by kernel_rfl) (by kernel_rfl) (by kernel_rfl) (fun _ _ _ h => h) (by rfl) hS (fun w2 hw2 => ?ry1) ?rr1
        case ry1 => ((try dsimp only at hw2); go_simp <;> with_reducible rfl)
        simp only [Act.put, List.setIfInBounds_toArray, List.set_cons_zero, List.set_cons_succ]
        refine rg_take 1 (v := ?rv2) rfl (by kernel_rfl) (by kernel_rfl) (by kernel_rfl) (fun _ _ _ h => h) (by rfl) hS (fun w2 hw2 => ?ry2) ?rr2
        case ry2 => ((try dsimp only at hw2); go_simp <;> with_reducible rfl)
        simp only [Act.put, List.setIfInBounds_toArray, List.set_cons_zero, List.set_cons_succ]
        refine rg_take 2 (v := ?rv3) rfl (by kernel_rfl) (by kernel_rfl) (by kernel_rfl) (fun _ _ _ h => h) (by rfl) hS (fun w2 hw2 => ?ry3) ?rr3
        case ry3 => ((try dsimp only at hw2); go_simp <;> with_reducible rfl)
        simp only [Act.put, List.setIfInBounds_toArray, List.set_cons_zero, List.set_cons_succ]
        refine rg_load 4 rfl (by kernel_rfl) (by kernel_rfl) (by kernel_rfl) (Z) (0) (#[.int .i64 18, .int .i64 0, .bool false]) (fun _ _ _ h => h) (by rfl) 39 (.tmp 14) rfl rfl hS (fun w2 h2 => HSB.out.2 w2 h2) Tryd.underlying39 rfl (by kernel_rfl) ?_
        simp only [Act.put, List.setIfInBounds_toArray, List.set_cons_zero, List.set_cons_succ]
        refine rg_step 3 rfl (by kernel_rfl) (by rfl) (fun K hK => ?_)
        go_simp
        refine (push_L hqd (by rw [hle]; omega) id t).mono ?_
        rintro e wa ⟨rfl, ob1, hq1, hm1, hf1⟩
        rw [HE.out]
        have hpl := push_same (cap := k) (L := ents (List.replicate 50 t) k) (id := id) t (by rw [HE.out]; decide)
        rw [hpl] at hq1
        have hSa : Kp S wa := by
          have hr := HSB.out.2 _ hS
          unfold Kp
          rw [HSd.out]
          exact ⟨fun i u hu => (World.cell?_of_block (w := W0) (a := ⟨Z, 0 + i, none⟩) (hm1.block Z hZd hgZ (fun e => hoZ e.symm))).trans (hr i u hu), Nat.lt_of_lt_of_le hZd hm1.size⟩
        have hBa := hm1.lo hB hlo hB.size
        have hlo1 := hlo.fresh hf1 hB.size
        have hoZ1 : ob1 ≠ some Z := by
          rcases hf1 with e | ⟨b', e, hb'⟩
          · rw [e]; exact hoZ
          · rw [e]; intro e2; have := Option.some.inj e2; omega
        have hZa : Z < wa.heap.size := Nat.lt_of_lt_of_le hZd hm1.size
        clear hS hB hlo hoZ hZd hm1 hf1 hpl hqd
        have hS := hSa
        have hB := hBa
        clear hSa hBa
        refine hK.out _ _ hS ?_
        clear hK K
        try simp only [Act.put, List.setIfInBounds_toArray, List.set_cons_zero, List.set_cons_succ]
        refine rg_step 5 rfl (by kernel_rfl) (by rfl) (fun K hK => ?_)
        go_simp
        refine (KR.out _ hB 18).mono ?_
        rintro e wb ⟨rfl, hb⟩
        replace hS := HSB.out.1 _ _ hS hb
        replace hB := hB.trans (hb.mono hB.size)
        replace hq1 := hq1.later hb (Nat.le_refl _)
        replace hZa := Nat.lt_of_lt_of_le hZa hb.size
        clear hb
        refine hK.out _ _ hS ?_
        clear hK K
        try simp only [Act.put, List.setIfInBounds_toArray, List.set_cons_zero, List.set_cons_succ]
        refine rg_take 6 (v := ?rv4) rfl (by kernel_rfl) (by kernel_rfl) (by kernel_rfl) (fun _ _ _ h => h) (by rfl) hS (fun w2 hw2 => ?ry4) ?rr4
        case ry4 => ((try dsimp only at hw2); go_simp <;> with_reducible rfl)
        simp only [Act.put, List.setIfInBounds_toArray, List.set_cons_zero, List.set_cons_succ]
        refine rg_take 7 (v := ?rv5) rfl (by kernel_rfl) (by kernel_rfl) (by kernel_rfl) (fun _ _ _ h => h) (by rfl) hS (fun w2 hw2 => ?ry5) ?rr5
        case ry5 => ((try dsimp only at hw2); go_simp <;> with_reducible rfl)
        simp only [Act.put, List.setIfInBounds_toArray, List.set_cons_zero, List.set_cons_succ]
        refine rg_take 8 (v := ?rv6) rfl (by kernel_rfl) (by kernel_rfl) (by kernel_rfl) (fun _ _ _ h => h) (by rfl) hS (fun w2 hw2 => ?ry6) ?rr6
        case ry6 => ((try dsimp only at hw2); go_simp <;> with_reducible rfl)
        simp only [Act.put, List.setIfInBounds_toArray, List.set_cons_zero, List.set_cons_succ]
        refine rg_step 9 rfl (by kernel_rfl) (by rfl) (fun K hK => ?_)
        go_simp
        refine (push_L hq1 (by rw [hle]; omega) (-1) t).mono ?_
        rintro e wc ⟨rfl, ob2, _, hm1, _⟩
        rw [show pushE k (ents (List.replicate 50 t) k) (-1) = 18 by rw [full_push]; rfl]
        have hSa : Kp S wc := by
          have hr := HSB.out.2 _ hS
          unfold Kp
          rw [HSd.out]
          exact ⟨fun i u hu => (World.cell?_of_block (w := wb) (a := ⟨Z, 0 + i, none⟩) (hm1.block Z hZa hgZ (fun e => hoZ1 e.symm))).trans (hr i u hu), Nat.lt_of_lt_of_le hZa hm1.size⟩
        replace hB := hm1.lo hB hlo1 hB.size
        clear hS hlo1 hoZ1 hZa hm1 hq1
        have hS := hSa
        clear hSa
        refine hK.out _ _ hS ?_
        clear hK K
        try simp only [Act.put, List.setIfInBounds_toArray, List.set_cons_zero, List.set_cons_succ]
        refine rg_step 10 rfl (by kernel_rfl) (by rfl) (fun K hK => ?_)
        go_simp
        refine (KB.out 18 _).mono ?_
        rintro e wd ⟨rfl, hb⟩
        replace hS := HSB.out.1 _ _ hS hb
        replace hB := hB.trans (hb.mono hB.size)
        clear hb
        refine hK.out _ _ hS ?_
        clear hK K
        try simp only [Act.put, List.setIfInBounds_toArray, List.set_cons_zero, List.set_cons_succ]
        refine rg_step 11 rfl (by kernel_rfl) (by rfl) (fun K hK => ?_)
        go_simp
        refine (KR2.out _ hB (-1) 18).mono ?_
        rintro e wd ⟨rfl, hb⟩
        replace hS := HSB.out.1 _ _ hS hb
        replace hB := hB.trans (hb.mono hB.size)
        clear hb
        refine hK.out _ _ hS ?_
        clear hK K
        try simp only [Act.put, List.setIfInBounds_toArray, List.set_cons_zero, List.set_cons_succ]
        refine rg_take 12 (v := ?rv7) rfl (by kernel_rfl) (by kernel_rfl) (by kernel_rfl) (fun _ _ _ h => h) (by rfl) hS (fun w2 hw2 => ?ry7) ?rr7
        case ry7 => ((try dsimp only at hw2); go_simp <;> with_reducible rfl)
        simp only [Act.put, List.setIfInBounds_toArray, List.set_cons_zero, List.set_cons_succ]
        refine rg_take 13 (v := ?rv8) rfl (by kernel_rfl) (by kernel_rfl) (by kernel_rfl) (fun _ _ _ h => h) (by rfl) hS (fun w2 hw2 => ?ry8) ?rr8
        case ry8 => ((try dsimp only at hw2); go_simp <;> with_reducible rfl)
        simp only [Act.put, List.setIfInBounds_toArray, List.set_cons_zero, List.set_cons_succ]
        refine rg_take 14 (v := ?rv9) rfl (by kernel_rfl) (by kernel_rfl) (by kernel_rfl) (fun _ _ _ h => h) (by rfl) hS (fun w2 hw2 => ?ry9) ?rr9
        case ry9 => ((try dsimp only at hw2); go_simp <;> with_reducible rfl)
        simp only [Act.put, List.setIfInBounds_toArray, List.set_cons_zero, List.set_cons_succ]
        refine rg_take 15 (v := ?rv10) rfl (by kernel_rfl) (by kernel_rfl) (by kernel_rfl) (fun _ _ _ h => h) (by rfl) hS (fun w2 hw2 => ?ry10) ?rr10
        case ry10 => ((try dsimp only at hw2); go_simp <;> with_reducible rfl)
        simp only [Act.put, List.setIfInBounds_toArray, List.set_cons_zero, List.set_cons_succ]
        refine rg_take 16 (v := ?rv11) rfl (by kernel_rfl) (by kernel_rfl) (by kernel_rfl) (fun _ _ _ h => h) (by rfl) hS (fun w2 hw2 => ?ry11) ?rr11
        case ry11 => ((try dsimp only at hw2); go_simp <;> with_reducible rfl)
        simp only [Act.put, List.setIfInBounds_toArray, List.set_cons_zero, List.set_cons_succ]
        refine rg_step 17 rfl (by kernel_rfl) (by rfl) (fun K hK => ?_)
        go_simp
        refine (KN1.out _).mono ?_
        rintro e wd ⟨rfl, hb⟩
        replace hS := HSB.out.1 _ _ hS hb
        replace hB := hB.trans (hb.mono hB.size)
        clear hb
        refine hK.out _ _ hS ?_
        clear hK K
        try simp only [Act.put, List.setIfInBounds_toArray, List.set_cons_zero, List.set_cons_succ]
        refine rg_step 18 rfl (by kernel_rfl) (by rfl) (fun K hK => ?_)
        go_simp
        refine (KB.out 2 _).mono ?_
        rintro e wd ⟨rfl, hb⟩
        replace hS := HSB.out.1 _ _ hS hb
        replace hB := hB.trans (hb.mono hB.size)
        clear hb
        refine hK.out _ _ hS ?_
        clear hK K
        try simp only [Act.put, List.setIfInBounds_toArray, List.set_cons_zero, List.set_cons_succ]
        refine rg_step 19 rfl (by kernel_rfl) (by rfl) (fun K hK => ?_)
        go_simp
        refine (KR3.out _ hB).mono ?_
        rintro e wd ⟨rfl, hb⟩
        replace hS := HSB.out.1 _ _ hS hb
        replace hB := hB.trans (hb.mono hB.size)
        clear hb
        refine hK.out _ _ hS ?_
        clear hK K
        try simp only [Act.put, List.setIfInBounds_toArray, List.set_cons_zero, List.set_cons_succ]
        refine rg_take 20 (v := ?rv12) rfl (by kernel_rfl) (by kernel_rfl) (by kernel_rfl) (fun _ _ _ h => h) (by rfl) hS (fun w2 hw2 => ?ry12) ?rr12
        case ry12 => ((try dsimp only at hw2); go_simp <;> with_reducible rfl)
        simp only [Act.put, List.setIfInBounds_toArray, List.set_cons_zero, List.set_cons_succ]
        refine rg_take 21 (v := ?rv13) rfl (by kernel_rfl) (by kernel_rfl) (by kernel_rfl) (fun _ _ _ h => h) (by rfl) hS (fun w2 hw2 => ?ry13) ?rr13
        case ry13 => ((try dsimp only at hw2); go_simp <;> with_reducible rfl)
        simp only [Act.put, List.setIfInBounds_toArray, List.set_cons_zero, List.set_cons_succ]
        refine rg_take 22 (v := ?rv14) rfl (by kernel_rfl) (by kernel_rfl) (by kernel_rfl) (fun _ _ _ h => h) (by rfl) hS (fun w2 hw2 => ?ry14) ?rr14
        case ry14 => ((try dsimp only at hw2); go_simp <;> with_reducible rfl)
        simp only [Act.put, List.setIfInBounds_toArray, List.set_cons_zero, List.set_cons_succ]
        refine rg_take 23 (v := ?rv15) rfl (by kernel_rfl) (by kernel_rfl) (by kernel_rfl) (fun _ _ _ h => h) (by rfl) hS (fun w2 hw2 => ?ry15) ?rr15
        case ry15 => ((try dsimp only at hw2); go_simp <;> with_reducible rfl)
        simp only [Act.put, List.setIfInBounds_toArray, List.set_cons_zero, List.set_cons_succ]
        refine rg_take 24 (v := ?rv16) rfl (by kernel_rfl) (by kernel_rfl) (by kernel_rfl) (fun _ _ _ h => h) (by rfl) hS (fun w2 hw2 => ?ry16) ?rr16
        case ry16 => ((try dsimp only at hw2); go_simp <;> with_reducible rfl)
        simp only [Act.put, List.setIfInBounds_toArray, List.set_cons_zero, List.set_cons_succ]
        refine rg_step 25 rfl (by kernel_rfl) (by rfl) (fun K hK => ?_)
        go_simp
        refine (KN2.out _).mono ?_
        rintro e wd ⟨rfl, hb⟩
        replace hS := HSB.out.1 _ _ hS hb
        replace hB := hB.trans (hb.mono hB.size)
        clear hb
        refine hK.out _ _ hS ?_
        clear hK K
        try simp only [Act.put, List.setIfInBounds_toArray, List.set_cons_zero, List.set_cons_succ]
        refine rg_step 26 rfl (by kernel_rfl) (by rfl) (fun K hK => ?_)
        go_simp
        refine (KB.out 2 _).mono ?_
        rintro e wd ⟨rfl, hb⟩
        replace hS := HSB.out.1 _ _ hS hb
        replace hB := hB.trans (hb.mono hB.size)
        clear hb
        refine hK.out _ _ hS ?_
        clear hK K
        try simp only [Act.put, List.setIfInBounds_toArray, List.set_cons_zero, List.set_cons_succ]
        refine rg_step 27 rfl (by kernel_rfl) (by rfl) (fun K hK => ?_)
        go_simp
        refine (KR3.out _ hB).mono ?_
        rintro e wd ⟨rfl, hb⟩
        replace hS := HSB.out.1 _ _ hS hb
        replace hB := hB.trans (hb.mono hB.size)
        clear hb
        refine hK.out _ _ hS ?_
        clear hK K
        try simp only [Act.put, List.setIfInBounds_toArray, List.set_cons_zero, List.set_cons_succ]
        refine rg_take 28 (v := ?rv17) rfl (by kernel_rfl) (by kernel_rfl) (by kernel_rfl) (fun _ _ _ h => h) (by rfl) hS (fun w2 hw2 => ?ry17) ?rr17
        case ry17 => ((try dsimp only at hw2); go_simp <;> with_reducible rfl)
        simp only [Act.put, List.setIfInBounds_toArray, List.set_cons_zero, List.set_cons_succ]
        refine rg_take 29 (v := ?rv18) rfl (by kernel_rfl) (by kernel_rfl) (by kernel_rfl) (fun _ _ _ h => h) (by rfl) hS (fun w2 hw2 => ?ry18) ?rr18
        case ry18 => ((try dsimp only at hw2); go_simp <;> with_reducible rfl)
        simp only [Act.put, List.setIfInBounds_toArray, List.set_cons_zero, List.set_cons_succ]
        refine rg_take 30 (v := ?rv19) rfl (by kernel_rfl) (by kernel_rfl) (by kernel_rfl) (fun _ _ _ h => h) (by rfl) hS (fun w2 hw2 => ?ry19) ?rr19
        case ry19 => ((try dsimp only at hw2); go_simp <;> with_reducible rfl)
        simp only [Act.put, List.setIfInBounds_toArray, List.set_cons_zero, List.set_cons_succ]
        refine rg_take 31 (v := ?rv20) rfl (by kernel_rfl) (by kernel_rfl) (by kernel_rfl) (fun _ _ _ h => h) (by rfl) hS (fun w2 hw2 => ?ry20) ?rr20
        case ry20 => ((try dsimp only at hw2); go_simp <;> with_reducible rfl)
        simp only [Act.put, List.setIfInBounds_toArray, List.set_cons_zero, List.set_cons_succ]
        refine rg_step 32 rfl (by kernel_rfl) (by rfl) (fun K hK => ?_)
        go_simp
        refine (KN3.out _).mono ?_
        rintro e wd ⟨rfl, hb⟩
        replace hS := HSB.out.1 _ _ hS hb
        replace hB := hB.trans (hb.mono hB.size)
        clear hb
        refine hK.out _ _ hS ?_
        clear hK K
        try simp only [Act.put, List.setIfInBounds_toArray, List.set_cons_zero, List.set_cons_succ]
        refine rg_step 33 rfl (by kernel_rfl) (by rfl) (fun K hK => ?_)
        go_simp
        refine (KB.out 2 _).mono ?_
        rintro e wd ⟨rfl, hb⟩
        replace hS := HSB.out.1 _ _ hS hb
        replace hB := hB.trans (hb.mono hB.size)
        clear hb
        refine hK.out _ _ hS ?_
        clear hK K
        try simp only [Act.put, List.setIfInBounds_toArray, List.set_cons_zero, List.set_cons_succ]
        refine rg_step 34 rfl (by kernel_rfl) (by rfl) (fun K hK => ?_)
        go_simp
        refine (KR3.out _ hB).mono ?_
        rintro e wd ⟨rfl, hb⟩
        replace hS := HSB.out.1 _ _ hS hb
        replace hB := hB.trans (hb.mono hB.size)
        clear hb
        refine hK.out _ _ hS ?_
        clear hK K
        try simp only [Act.put, List.setIfInBounds_toArray, List.set_cons_zero, List.set_cons_succ]
        refine rg_take 35 (v := ?rv21) rfl (by kernel_rfl) (by kernel_rfl) (by kernel_rfl) (fun _ _ _ h => h) (by rfl) hS (fun w2 hw2 => ?ry21) ?rr21
        case ry21 => ((try dsimp only at hw2); go_simp <;> with_reducible rfl)
        simp only [Act.put, List.setIfInBounds_toArray, List.set_cons_zero, List.set_cons_succ]
        refine rg_take 36 (v := ?rv22) rfl (by kernel_rfl) (by kernel_rfl) (by kernel_rfl) (fun _ _ _ h => h) (by rfl) hS (fun w2 hw2 => ?ry22) ?rr22
        case ry22 => ((try dsimp only at hw2); go_simp <;> with_reducible rfl)
        simp only [Act.put, List.setIfInBounds_toArray, List.set_cons_zero, List.set_cons_succ]
        refine rg_take 37 (v := ?rv23) rfl (by kernel_rfl) (by kernel_rfl) (by kernel_rfl) (fun _ _ _ h => h) (by rfl) hS (fun w2 hw2 => ?ry23) ?rr23
        case ry23 => ((try dsimp only at hw2); go_simp <;> with_reducible rfl)
        simp only [Act.put, List.setIfInBounds_toArray, List.set_cons_zero, List.set_cons_succ]
        refine rg_take 38 (v := ?rv24) rfl (by kernel_rfl) (by kernel_rfl) (by kernel_rfl) (fun _ _ _ h => h) (by rfl) hS (fun w2 hw2 => ?ry24) ?rr24
        case ry24 => ((try dsimp only at hw2); go_simp <;> with_reducible rfl)
        simp only [Act.put, List.setIfInBounds_toArray, List.set_cons_zero, List.set_cons_succ]
        refine rg_take 39 (v := ?rv25) rfl (by kernel_rfl) (by kernel_rfl) (by kernel_rfl) (fun _ _ _ h => h) (by rfl) hS (fun w2 hw2 => ?ry25) ?rr25
        case ry25 => ((try dsimp only at hw2); go_simp <;> with_reducible rfl)
        simp only [Act.put, List.setIfInBounds_toArray, List.set_cons_zero, List.set_cons_succ]
        refine rg_take 40 (v := ?rv26) rfl (by kernel_rfl) (by kernel_rfl) (by kernel_rfl) (fun _ _ _ h => h) (by rfl) hS (fun w2 hw2 => ?ry26) ?rr26
        case ry26 => ((try dsimp only at hw2); go_simp <;> with_reducible rfl)
        simp only [Act.put, List.setIfInBounds_toArray, List.set_cons_zero, List.set_cons_succ]
        refine rg_take 41 (v := ?rv27) rfl (by kernel_rfl) (by kernel_rfl) (by kernel_rfl) (fun _ _ _ h => h) (by rfl) hS (fun w2 hw2 => ?ry27) ?rr27
        case ry27 => ((try dsimp only at hw2); go_simp <;> with_reducible rfl)
        simp only [Act.put, List.setIfInBounds_toArray, List.set_cons_zero, List.set_cons_succ]
        refine rg_take 42 (v := ?rv28) rfl (by kernel_rfl) (by kernel_rfl) (by kernel_rfl) (fun _ _ _ h => h) (by rfl) hS (fun w2 hw2 => ?ry28) ?rr28
        case ry28 => ((try dsimp only at hw2); go_simp <;> with_reducible rfl)
        simp only [Act.put, List.setIfInBounds_toArray, List.set_cons_zero, List.set_cons_succ]
        refine rg_take 43 (v := ?rv29) rfl (by kernel_rfl) (by kernel_rfl) (by kernel_rfl) (fun _ _ _ h => h) (by rfl) hS (fun w2 hw2 => ?ry29) ?rr29
        case ry29 => ((try dsimp only at hw2); go_simp <;> with_reducible rfl)
        simp only [Act.put, List.setIfInBounds_toArray, List.set_cons_zero, List.set_cons_succ]
        refine rg_take 44 (v := ?rv30) rfl (by kernel_rfl) (by kernel_rfl) (by kernel_rfl) (fun _ _ _ h => h) (by rfl) hS (fun w2 hw2 => ?ry30) ?rr30
        case ry30 => ((try dsimp only at hw2); go_simp <;> with_reducible rfl)
        simp only [Act.put, List.setIfInBounds_toArray, List.set_cons_zero, List.set_cons_succ]
        refine rg_take 45 (v := ?rv31) rfl (by kernel_rfl) (by kernel_rfl) (by kernel_rfl) (fun _ _ _ h => h) (by rfl) hS (fun w2 hw2 => ?ry31) ?rr31
        case ry31 => ((try dsimp only at hw2); go_simp <;> with_reducible rfl)
        simp only [Act.put, List.setIfInBounds_toArray, List.set_cons_zero, List.set_cons_succ]
        refine rg_take 46 (v := ?rv32) rfl (by kernel_rfl) (by kernel_rfl) (by kernel_rfl) (fun _ _ _ h => h) (by rfl) hS (fun w2 hw2 => ?ry32) ?rr32
        case ry32 => ((try dsimp only at hw2); go_simp <;> with_reducible rfl)
        simp only [Act.put, List.setIfInBounds_toArray, List.set_cons_zero, List.set_cons_succ]
        refine rg_step 47 rfl (by kernel_rfl) (by rfl) (fun K hK => ?_)
        go_simp
        refine (KN4.out _).mono ?_
        rintro e wd ⟨rfl, hb⟩
        replace hS := HSB.out.1 _ _ hS hb
        replace hB := hB.trans (hb.mono hB.size)
        clear hb
        refine hK.out _ _ hS ?_
        clear hK K
        try simp only [Act.put, List.setIfInBounds_toArray, List.set_cons_zero, List.set_cons_succ]
        refine rg_take 48 (v := ?rv33) rfl (by kernel_rfl) (by kernel_rfl) (by kernel_rfl) (fun _ _ _ h => h) (by rfl) hS (fun w2 hw2 => ?ry33) ?rr33
        case ry33 => ((try dsimp only at hw2); go_simp <;> with_reducible rfl)
        simp only [Act.put, List.setIfInBounds_toArray, List.set_cons_zero, List.set_cons_succ]
        refine rg_take 49 (v := ?rv34) rfl (by kernel_rfl) (by kernel_rfl) (by kernel_rfl) (fun _ _ _ h => h) (by rfl) hS (fun w2 hw2 => ?ry34) ?rr34
        case ry34 => ((try dsimp only at hw2); go_simp <;> with_reducible rfl)
        simp only [Act.put, List.setIfInBounds_toArray, List.set_cons_zero, List.set_cons_succ]
        refine rg_take 50 (v := ?rv35) rfl (by kernel_rfl) (by kernel_rfl) (by kernel_rfl) (fun _ _ _ h => h) (by rfl) hS (fun w2 hw2 => ?ry35) ?rr35
        case ry35 => ((try dsimp only at hw2); go_simp <;> with_reducible rfl)
        simp only [Act.put, List.setIfInBounds_toArray, List.set_cons_zero, List.set_cons_succ]
        refine rg_take 51 (v := ?rv36) rfl (by kernel_rfl) (by kernel_rfl) (by kernel_rfl) (fun _ _ _ h => h) (by rfl) hS (fun w2 hw2 => ?ry36) ?rr36
        case ry36 => ((try dsimp only at hw2); go_simp <;> with_reducible rfl)
        simp only [Act.put, List.setIfInBounds_toArray, List.set_cons_zero, List.set_cons_succ]
        refine rg_take 52 (v := ?rv37) rfl (by kernel_rfl) (by kernel_rfl) (by kernel_rfl) (fun _ _ _ h => h) (by rfl) hS (fun w2 hw2 => ?ry37) ?rr37
        case ry37 => ((try dsimp only at hw2); go_simp <;> with_reducible rfl)
        simp only [Act.put, List.setIfInBounds_toArray, List.set_cons_zero, List.set_cons_succ]
        refine rg_step 53 rfl (by kernel_rfl) (by rfl) (fun K hK => ?_)
        go_simp
        refine (KN5.out _).mono ?_
        rintro e wd ⟨rfl, rfl⟩
        refine hK.out _ _ hS ?_
        clear hK K
        try simp only [Act.put, List.setIfInBounds_toArray, List.set_cons_zero, List.set_cons_succ]
        refine rg_take 54 (v := ?rv38) rfl (by kernel_rfl) (by kernel_rfl) (by kernel_rfl) (fun _ _ _ h => h) (by rfl) hS (fun w2 hw2 => ?ry38) ?rr38
        case ry38 => ((try dsimp only at hw2); go_simp <;> with_reducible rfl)
        simp only [Act.put, List.setIfInBounds_toArray, List.set_cons_zero, List.set_cons_succ]
        refine rg_take 55 (v := ?rv39) rfl (by kernel_rfl) (by kernel_rfl) (by kernel_rfl) (fun _ _ _ h => h) (by rfl) hS (fun w2 hw2 => ?ry39) ?rr39
        case ry39 => ((try dsimp only at hw2); go_simp <;> with_reducible rfl)
        simp only [Act.put, List.setIfInBounds_toArray, List.set_cons_zero, List.set_cons_succ]
        refine rg_take 56 (v := ?rv40) rfl (by kernel_rfl) (by kernel_rfl) (by kernel_rfl) (fun _ _ _ h => h) (by rfl) hS (fun w2 hw2 => ?ry40) ?rr40
        case ry40 => ((try dsimp only at hw2); go_simp <;> with_reducible rfl)
        simp only [Act.put, List.setIfInBounds_toArray, List.set_cons_zero, List.set_cons_succ]
        refine rg_done (by kernel_rfl) ?_
        clear hS
        go_wp2_with fail
        go_ret
        exact ⟨rfl, hB⟩
      · have hc0 : 0 ≤ id := by omega
        by_cases hin : id < (k : Int)
        · rw [if_pos ⟨hc0, hin⟩] at HE
          go_wp2_with (first
            | (refine KN.out.mono ?_; rintro e w4 ⟨rfl, b4⟩)
            | (go_at_call 20; refine (KA.out _).mono ?_; rintro e w5 ⟨rfl, b5⟩)
            | (go_at_call 22; refine (KB.out 18 _).mono ?_; rintro e w6 ⟨rfl, b6⟩))
          have b45 : Below wr.heap.size wr w5 := (b4.alloc b4.size _).trans (b5.mono (b4.alloc b4.size _).size)
          have b456 : Below wr.heap.size wr w6 := b45.trans (b6.mono b45.size)
          refine (KB.out 19 _).mono ?_
          rintro e w7 ⟨rfl, b7⟩
          obtain ⟨c0, c1, c2, f0, f1, f2, _⟩ := boxed3 b7
          have hbx := Box.behind b7
          have b67 : Below wr.heap.size wr w7 := (b456.alloc b456.size _).trans (b7.mono (b456.alloc b456.size _).size)
          go_wp2_with fail
          have hZ : (((w7.setCell ⟨w6.heap.size, 0, none⟩ (.int .i64 19)).setCell ⟨w6.heap.size, 1, none⟩ (.int .i64 0)).setCell ⟨w6.heap.size, 2, none⟩ (.bool false)).heap[w6.heap.size]? = some (.cells #[.int .i64 19, .int .i64 0, .bool false] 39 (0, 0)) := hbx.put 19 0 false
          have bW : Below wr.heap.size wr (((w7.setCell ⟨w6.heap.size, 0, none⟩ (.int .i64 19)).setCell ⟨w6.heap.size, 1, none⟩ (.int .i64 0)).setCell ⟨w6.heap.size, 2, none⟩ (.bool false)) := ((b67.setCell (p := ⟨w6.heap.size, 0, none⟩) b456.size _).setCell (p := ⟨w6.heap.size, 1, none⟩) b456.size _).setCell (p := ⟨w6.heap.size, 2, none⟩) b456.size _
          obtain ⟨W, hW⟩ : ∃ W, (((w7.setCell ⟨w6.heap.size, 0, none⟩ (.int .i64 19)).setCell ⟨w6.heap.size, 1, none⟩ (.int .i64 0)).setCell ⟨w6.heap.size, 2, none⟩ (.bool false)) = W := ⟨_, rfl⟩
          rw [hW] at hZ bW ⊢
          clear c0 c1 c2 f0 f1 f2 hbx b67 b7
          obtain ⟨Z, hZe⟩ : ∃ Z, Z = w6.heap.size := ⟨_, rfl⟩
          rw [← hZe] at hZ ⊢
          have hZw : wr.heap.size ≤ Z := hZe ▸ b456.size
          have hrg : W.rangeAt Z 0 [.int .i64 19, .int .i64 0, .bool false] := fun j v hj => by
            rw [Nat.zero_add, cell_of_row W Z _ _ _ _ hZ, ← Array.getElem?_toList]
            exact hj
          have HQ := Lib.hid (HS.out.later bW)
          have HWB := Lib.hid (HB0.out.trans (bW.mono HB0.out.size))
          have bW2 := Lib.hid bW
          have hlZ : Z < W.heap.size := (Array.getElem?_eq_some_iff.1 hZ).1
          clear hW hZe b4 b5 b6 b45 b456 hZ
          obtain ⟨S, hSd⟩ : ∃ S : World → Prop, S = fun w' => w'.rangeAt Z 0 [.int .i64 19, .int .i64 0, .bool false] ∧ Z < w'.heap.size := ⟨_, rfl⟩
          have hS : Kp S W.drew := by unfold Kp; rw [hSd]; exact ⟨hrg, hlZ⟩
          have hSb : ∀ w1 w2, Kp S w1 → Below w1.heap.size w1 w2 → Kp S w2 := fun w1 w2 h hb => by
            unfold Kp at h ⊢
            rw [hSd] at h ⊢
            exact ⟨range_later h.1 hb (Nat.le_refl _), Nat.lt_of_lt_of_le h.2 hb.size⟩
          have hS1 : ∀ w', Kp S w' → w'.rangeAt Z 0 [.int .i64 19, .int .i64 0, .bool false] := fun w' h => by unfold Kp at h; rw [hSd] at h; exact h.1
          have HSB := Lib.hid (And.intro hSb hS1)
          have HSd := Lib.hid hSd
          clear hSb hS1 hSd hrg bW hlZ
          have KR := Lib.hid fun (w1 : World) (hb : Below w.heap.size w w1) (c : Int) => is_res (HG.out.later hb (Nat.le_refl _)) id c
          have KR2 := Lib.hid fun (w1 : World) (hb : Below w.heap.size w w1) (i c : Int) => is_res (HG.out.later hb (Nat.le_refl _)) i c
          have KR3 := Lib.hid fun (w1 : World) (hb : Below w.heap.size w w1) => is_ref (HG.out.later hb (Nat.le_refl _)) id 2 (by decide)
          have KN1 := Lib.hid fun w1 => push_nil id t w1
          have KN2 := Lib.hid fun w1 => move_nil id t w1
          have KN3 := Lib.hid fun w1 => cancel_nil id w1
          have KN4 := Lib.hid fun w1 => due_nil t w1
          have KN5 := Lib.hid fun w1 => len_nil w1
          obtain ⟨ob, hq, hlo, _⟩ := HS.out
          have hoZ : ob ≠ some Z := fun e => by have := hq.lto e; omega
          have hgZ : Z ≠ g := fun e => by have := hq.lt; omega
          replace hq := hq.later bW2.out (Nat.le_refl _)
          have hle : (ents (List.replicate 50 t) k).length = k := ents_length _ _
          go_wp2_with fail
          refine rg_begin (Kp S) 57 (by kernel_rfl) rfl ?_
          have hB : Below w.heap.size w W.drew := below_of_drew HWB.out
          have hqd : QL W.drew g ob k (ents (List.replicate 50 t) k) := hq.later (below_of_drew (Below.refl W.heap.size W)) (Nat.le_refl _)
          have hZd : Z < W.drew.heap.size := by unfold Kp at hS; rw [HSd.out] at hS; exact hS.2
          obtain ⟨W0, hW0⟩ : ∃ W0, W.drew = W0 := ⟨_, rfl⟩
          rw [hW0] at hS hB hqd hZd ⊢
          clear hW0 hq
          refine rg_take 0 (v := ?rv41) rfl (by kernel_rfl) (by kernel_rfl) (by kernel_rfl) (fun _ _ _ h => h) (by rfl) hS (fun w2 hw2 => ?ry41) ?rr41
          case ry41 => ((try dsimp only at hw2); go_simp <;> with_reducible rfl)
          simp only [Act.put, List.setIfInBounds_toArray, List.set_cons_zero, List.set_cons_succ]
          refine rg_take 1 (v := ?rv42) rfl (by kernel_rfl) (by kernel_rfl) (by kernel_rfl) (fun _ _ _ h => h) (by rfl) hS (fun w2 hw2 => ?ry42) ?rr42
          case ry42 => ((try dsimp only at hw2); go_simp <;> with_reducible rfl)
          simp only [Act.put, List.setIfInBounds_toArray, List.set_cons_zero, List.set_cons_succ]
          refine rg_take 2 (v := ?rv43) rfl (by kernel_rfl) (by kernel_rfl) (by kernel_rfl) (fun _ _ _ h => h) (by rfl) hS (fun w2 hw2 => ?ry43) ?rr43
          case ry43 => ((try dsimp only at hw2); go_simp <;> with_reducible rfl)
          simp only [Act.put, List.setIfInBounds_toArray, List.set_cons_zero, List.set_cons_succ]
          refine rg_load 4 rfl (by kernel_rfl) (by kernel_rfl) (by kernel_rfl) (Z) (0) (#[.int .i64 19, .int .i64 0, .bool false]) (fun _ _ _ h => h) (by rfl) 39 (.tmp 14) rfl rfl hS (fun w2 h2 => HSB.out.2 w2 h2) Tryd.underlying39 rfl (by kernel_rfl) ?_
          simp only [Act.put, List.setIfInBounds_toArray, List.set_cons_zero, List.set_cons_succ]
          refine rg_step 3 rfl (by kernel_rfl) (by rfl) (fun K hK => ?_)
          go_simp
          refine (push_L hqd (by rw [hle]; omega) id t).mono ?_
          rintro e wa ⟨rfl, ob1, hq1, hm1, hf1⟩
          rw [HE.out]
          have hpl := push_same (cap := k) (L := ents (List.replicate 50 t) k) (id := id) t (by rw [HE.out]; decide)
          rw [hpl] at hq1
          have hSa : Kp S wa := by
            have hr := HSB.out.2 _ hS
            unfold Kp
            rw [HSd.out]
            exact ⟨fun i u hu => (World.cell?_of_block (w := W0) (a := ⟨Z, 0 + i, none⟩) (hm1.block Z hZd hgZ (fun e => hoZ e.symm))).trans (hr i u hu), Nat.lt_of_lt_of_le hZd hm1.size⟩
          have hBa := hm1.lo hB hlo hB.size
          have hlo1 := hlo.fresh hf1 hB.size
          have hoZ1 : ob1 ≠ some Z := by
            rcases hf1 with e | ⟨b', e, hb'⟩
            · rw [e]; exact hoZ
            · rw [e]; intro e2; have := Option.some.inj e2; omega
          have hZa : Z < wa.heap.size := Nat.lt_of_lt_of_le hZd hm1.size
          clear hS hB hlo hoZ hZd hm1 hf1 hpl hqd
          have hS := hSa
          have hB := hBa
          clear hSa hBa
          refine hK.out _ _ hS ?_
          clear hK K
          try simp only [Act.put, List.setIfInBounds_toArray, List.set_cons_zero, List.set_cons_succ]
          refine rg_step 5 rfl (by kernel_rfl) (by rfl) (fun K hK => ?_)
          go_simp
          refine (KR.out _ hB 19).mono ?_
          rintro e wb ⟨rfl, hb⟩
          replace hS := HSB.out.1 _ _ hS hb
          replace hB := hB.trans (hb.mono hB.size)
          replace hq1 := hq1.later hb (Nat.le_refl _)
          replace hZa := Nat.lt_of_lt_of_le hZa hb.size
          clear hb
          refine hK.out _ _ hS ?_
          clear hK K
          try simp only [Act.put, List.setIfInBounds_toArray, List.set_cons_zero, List.set_cons_succ]
          refine rg_take 6 (v := ?rv44) rfl (by kernel_rfl) (by kernel_rfl) (by kernel_rfl) (fun _ _ _ h => h) (by rfl) hS (fun w2 hw2 => ?ry44) ?rr44
          case ry44 => ((try dsimp only at hw2); go_simp <;> with_reducible rfl)
          simp only [Act.put, List.setIfInBounds_toArray, List.set_cons_zero, List.set_cons_succ]
          refine rg_take 7 (v := ?rv45) rfl (by kernel_rfl) (by kernel_rfl) (by kernel_rfl) (fun _ _ _ h => h) (by rfl) hS (fun w2 hw2 => ?ry45) ?rr45
          case ry45 => ((try dsimp only at hw2); go_simp <;> with_reducible rfl)
          simp only [Act.put, List.setIfInBounds_toArray, List.set_cons_zero, List.set_cons_succ]
          refine rg_take 8 (v := ?rv46) rfl (by kernel_rfl) (by kernel_rfl) (by kernel_rfl) (fun _ _ _ h => h) (by rfl) hS (fun w2 hw2 => ?ry46) ?rr46
          case ry46 => ((try dsimp only at hw2); go_simp <;> with_reducible rfl)
          simp only [Act.put, List.setIfInBounds_toArray, List.set_cons_zero, List.set_cons_succ]
          refine rg_step 9 rfl (by kernel_rfl) (by rfl) (fun K hK => ?_)
          go_simp
          refine (push_L hq1 (by rw [hle]; omega) (-1) t).mono ?_
          rintro e wc ⟨rfl, ob2, _, hm1, _⟩
          rw [show pushE k (ents (List.replicate 50 t) k) (-1) = 18 by rw [full_push]; rfl]
          have hSa : Kp S wc := by
            have hr := HSB.out.2 _ hS
            unfold Kp
            rw [HSd.out]
            exact ⟨fun i u hu => (World.cell?_of_block (w := wb) (a := ⟨Z, 0 + i, none⟩) (hm1.block Z hZa hgZ (fun e => hoZ1 e.symm))).trans (hr i u hu), Nat.lt_of_lt_of_le hZa hm1.size⟩
          replace hB := hm1.lo hB hlo1 hB.size
          clear hS hlo1 hoZ1 hZa hm1 hq1
          have hS := hSa
          clear hSa
          refine hK.out _ _ hS ?_
          clear hK K
          try simp only [Act.put, List.setIfInBounds_toArray, List.set_cons_zero, List.set_cons_succ]
          refine rg_step 10 rfl (by kernel_rfl) (by rfl) (fun K hK => ?_)
          go_simp
          refine (KB.out 18 _).mono ?_
          rintro e wd ⟨rfl, hb⟩
          replace hS := HSB.out.1 _ _ hS hb
          replace hB := hB.trans (hb.mono hB.size)
          clear hb
          refine hK.out _ _ hS ?_
          clear hK K
          try simp only [Act.put, List.setIfInBounds_toArray, List.set_cons_zero, List.set_cons_succ]
          refine rg_step 11 rfl (by kernel_rfl) (by rfl) (fun K hK => ?_)
          go_simp
          refine (KR2.out _ hB (-1) 18).mono ?_
          rintro e wd ⟨rfl, hb⟩
          replace hS := HSB.out.1 _ _ hS hb
          replace hB := hB.trans (hb.mono hB.size)
          clear hb
          refine hK.out _ _ hS ?_
          clear hK K
          try simp only [Act.put, List.setIfInBounds_toArray, List.set_cons_zero, List.set_cons_succ]
          refine rg_take 12 (v := ?rv47) rfl (by kernel_rfl) (by kernel_rfl) (by kernel_rfl) (fun _ _ _ h => h) (by rfl) hS (fun w2 hw2 => ?ry47) ?rr47
          case ry47 => ((try dsimp only at hw2); go_simp <;> with_reducible rfl)
          simp only [Act.put, List.setIfInBounds_toArray, List.set_cons_zero, List.set_cons_succ]
          refine rg_take 13 (v := ?rv48) rfl (by kernel_rfl) (by kernel_rfl) (by kernel_rfl) (fun _ _ _ h => h) (by rfl) hS (fun w2 hw2 => ?ry48) ?rr48
          case ry48 => ((try dsimp only at hw2); go_simp <;> with_reducible rfl)
          simp only [Act.put, List.setIfInBounds_toArray, List.set_cons_zero, List.set_cons_succ]
          refine rg_take 14 (v := ?rv49) rfl (by kernel_rfl) (by kernel_rfl) (by kernel_rfl) (fun _ _ _ h => h) (by rfl) hS (fun w2 hw2 => ?ry49) ?rr49
          case ry49 => ((try dsimp only at hw2); go_simp <;> with_reducible rfl)
          simp only [Act.put, List.setIfInBounds_toArray, List.set_cons_zero, List.set_cons_succ]
          refine rg_take 15 (v := ?rv50) rfl (by kernel_rfl) (by kernel_rfl) (by kernel_rfl) (fun _ _ _ h => h) (by rfl) hS (fun w2 hw2 => ?ry50) ?rr50
          case ry50 => ((try dsimp only at hw2); go_simp <;> with_reducible rfl)
          simp only [Act.put, List.setIfInBounds_toArray, List.set_cons_zero, List.set_cons_succ]
          refine rg_take 16 (v := ?rv51) rfl (by kernel_rfl) (by kernel_rfl) (by kernel_rfl) (fun _ _ _ h => h) (by rfl) hS (fun w2 hw2 => ?ry51) ?rr51
          case ry51 => ((try dsimp only at hw2); go_simp <;> with_reducible rfl)
          simp only [Act.put, List.setIfInBounds_toArray, List.set_cons_zero, List.set_cons_succ]
          refine rg_step 17 rfl (by kernel_rfl) (by rfl) (fun K hK => ?_)
          go_simp
          refine (KN1.out _).mono ?_
          rintro e wd ⟨rfl, hb⟩
          replace hS := HSB.out.1 _ _ hS hb
          replace hB := hB.trans (hb.mono hB.size)
          clear hb
          refine hK.out _ _ hS ?_
          clear hK K
          try simp only [Act.put, List.setIfInBounds_toArray, List.set_cons_zero, List.set_cons_succ]
          refine rg_step 18 rfl (by kernel_rfl) (by rfl) (fun K hK => ?_)
          go_simp
          refine (KB.out 2 _).mono ?_
          rintro e wd ⟨rfl, hb⟩
          replace hS := HSB.out.1 _ _ hS hb
          replace hB := hB.trans (hb.mono hB.size)
          clear hb
          refine hK.out _ _ hS ?_
          clear hK K
          try simp only [Act.put, List.setIfInBounds_toArray, List.set_cons_zero, List.set_cons_succ]
          refine rg_step 19 rfl (by kernel_rfl) (by rfl) (fun K hK => ?_)
          go_simp
          refine (KR3.out _ hB).mono ?_
          rintro e wd ⟨rfl, hb⟩
          replace hS := HSB.out.1 _ _ hS hb
          replace hB := hB.trans (hb.mono hB.size)
          clear hb
          refine hK.out _ _ hS ?_
          clear hK K
          try simp only [Act.put, List.setIfInBounds_toArray, List.set_cons_zero, List.set_cons_succ]
          refine rg_take 20 (v := ?rv52) rfl (by kernel_rfl) (by kernel_rfl) (by kernel_rfl) (fun _ _ _ h => h) (by rfl) hS (fun w2 hw2 => ?ry52) ?rr52
          case ry52 => ((try dsimp only at hw2); go_simp <;> with_reducible rfl)
          simp only [Act.put, List.setIfInBounds_toArray, List.set_cons_zero, List.set_cons_succ]
          refine rg_take 21 (v := ?rv53) rfl (by kernel_rfl) (by kernel_rfl) (by kernel_rfl) (fun _ _ _ h => h) (by rfl) hS (fun w2 hw2 => ?ry53) ?rr53
          case ry53 => ((try dsimp only at hw2); go_simp <;> with_reducible rfl)
          simp only [Act.put, List.setIfInBounds_toArray, List.set_cons_zero, List.set_cons_succ]
          refine rg_take 22 (v := ?rv54) rfl (by kernel_rfl) (by kernel_rfl) (by kernel_rfl) (fun _ _ _ h => h) (by rfl) hS (fun w2 hw2 => ?ry54) ?rr54
          case ry54 => ((try dsimp only at hw2); go_simp <;> with_reducible rfl)
          simp only [Act.put, List.setIfInBounds_toArray, List.set_cons_zero, List.set_cons_succ]
          refine rg_take 23 (v := ?rv55) rfl (by kernel_rfl) (by kernel_rfl) (by kernel_rfl) (fun _ _ _ h => h) (by rfl) hS (fun w2 hw2 => ?ry55) ?rr55
          case ry55 => ((try dsimp only at hw2); go_simp <;> with_reducible rfl)
          simp only [Act.put, List.setIfInBounds_toArray, List.set_cons_zero, List.set_cons_succ]
          refine rg_take 24 (v := ?rv56) rfl (by kernel_rfl) (by kernel_rfl) (by kernel_rfl) (fun _ _ _ h => h) (by rfl) hS (fun w2 hw2 => ?ry56) ?rr56
          case ry56 => ((try dsimp only at hw2); go_simp <;> with_reducible rfl)
          simp only [Act.put, List.setIfInBounds_toArray, List.set_cons_zero, List.set_cons_succ]
          refine rg_step 25 rfl (by kernel_rfl) (by rfl) (fun K hK => ?_)
          go_simp
          refine (KN2.out _).mono ?_
          rintro e wd ⟨rfl, hb⟩
          replace hS := HSB.out.1 _ _ hS hb
          replace hB := hB.trans (hb.mono hB.size)
          clear hb
          refine hK.out _ _ hS ?_
          clear hK K
          try simp only [Act.put, List.setIfInBounds_toArray, List.set_cons_zero, List.set_cons_succ]
          refine rg_step 26 rfl (by kernel_rfl) (by rfl) (fun K hK => ?_)
          go_simp
          refine (KB.out 2 _).mono ?_
          rintro e wd ⟨rfl, hb⟩
          replace hS := HSB.out.1 _ _ hS hb
          replace hB := hB.trans (hb.mono hB.size)
          clear hb
          refine hK.out _ _ hS ?_
          clear hK K
          try simp only [Act.put, List.setIfInBounds_toArray, List.set_cons_zero, List.set_cons_succ]
          refine rg_step 27 rfl (by kernel_rfl) (by rfl) (fun K hK => ?_)
          go_simp
          refine (KR3.out _ hB).mono ?_
          rintro e wd ⟨rfl, hb⟩
          replace hS := HSB.out.1 _ _ hS hb
          replace hB := hB.trans (hb.mono hB.size)
          clear hb
          refine hK.out _ _ hS ?_
          clear hK K
          try simp only [Act.put, List.setIfInBounds_toArray, List.set_cons_zero, List.set_cons_succ]
          refine rg_take 28 (v := ?rv57) rfl (by kernel_rfl) (by kernel_rfl) (by kernel_rfl) (fun _ _ _ h => h) (by rfl) hS (fun w2 hw2 => ?ry57) ?rr57
          case ry57 => ((try dsimp only at hw2); go_simp <;> with_reducible rfl)
          simp only [Act.put, List.setIfInBounds_toArray, List.set_cons_zero, List.set_cons_succ]
          refine rg_take 29 (v := ?rv58) rfl (by kernel_rfl) (by kernel_rfl) (by kernel_rfl) (fun _ _ _ h => h) (by rfl) hS (fun w2 hw2 => ?ry58) ?rr58
          case ry58 => ((try dsimp only at hw2); go_simp <;> with_reducible rfl)
          simp only [Act.put, List.setIfInBounds_toArray, List.set_cons_zero, List.set_cons_succ]
          refine rg_take 30 (v := ?rv59) rfl (by kernel_rfl) (by kernel_rfl) (by kernel_rfl) (fun _ _ _ h => h) (by rfl) hS (fun w2 hw2 => ?ry59) ?rr59
          case ry59 => ((try dsimp only at hw2); go_simp <;> with_reducible rfl)
          simp only [Act.put, List.setIfInBounds_toArray, List.set_cons_zero, List.set_cons_succ]
          refine rg_take 31 (v := ?rv60) rfl (by kernel_rfl) (by kernel_rfl) (by kernel_rfl) (fun _ _ _ h => h) (by rfl) hS (fun w2 hw2 => ?ry60) ?rr60
          case ry60 => ((try dsimp only at hw2); go_simp <;> with_reducible rfl)
          simp only [Act.put, List.setIfInBounds_toArray, List.set_cons_zero, List.set_cons_succ]
          refine rg_step 32 rfl (by kernel_rfl) (by rfl) (fun K hK => ?_)
          go_simp
          refine (KN3.out _).mono ?_
          rintro e wd ⟨rfl, hb⟩
          replace hS := HSB.out.1 _ _ hS hb
          replace hB := hB.trans (hb.mono hB.size)
          clear hb
          refine hK.out _ _ hS ?_
          clear hK K
          try simp only [Act.put, List.setIfInBounds_toArray, List.set_cons_zero, List.set_cons_succ]
          refine rg_step 33 rfl (by kernel_rfl) (by rfl) (fun K hK => ?_)
          go_simp
          refine (KB.out 2 _).mono ?_
          rintro e wd ⟨rfl, hb⟩
          replace hS := HSB.out.1 _ _ hS hb
          replace hB := hB.trans (hb.mono hB.size)
          clear hb
          refine hK.out _ _ hS ?_
          clear hK K
          try simp only [Act.put, List.setIfInBounds_toArray, List.set_cons_zero, List.set_cons_succ]
          refine rg_step 34 rfl (by kernel_rfl) (by rfl) (fun K hK => ?_)
          go_simp
          refine (KR3.out _ hB).mono ?_
          rintro e wd ⟨rfl, hb⟩
          replace hS := HSB.out.1 _ _ hS hb
          replace hB := hB.trans (hb.mono hB.size)
          clear hb
          refine hK.out _ _ hS ?_
          clear hK K
          try simp only [Act.put, List.setIfInBounds_toArray, List.set_cons_zero, List.set_cons_succ]
          refine rg_take 35 (v := ?rv61) rfl (by kernel_rfl) (by kernel_rfl) (by kernel_rfl) (fun _ _ _ h => h) (by rfl) hS (fun w2 hw2 => ?ry61) ?rr61
          case ry61 => ((try dsimp only at hw2); go_simp <;> with_reducible rfl)
          simp only [Act.put, List.setIfInBounds_toArray, List.set_cons_zero, List.set_cons_succ]
          refine rg_take 36 (v := ?rv62) rfl (by kernel_rfl) (by kernel_rfl) (by kernel_rfl) (fun _ _ _ h => h) (by rfl) hS (fun w2 hw2 => ?ry62) ?rr62
          case ry62 => ((try dsimp only at hw2); go_simp <;> with_reducible rfl)
          simp only [Act.put, List.setIfInBounds_toArray, List.set_cons_zero, List.set_cons_succ]
          refine rg_take 37 (v := ?rv63) rfl (by kernel_rfl) (by kernel_rfl) (by kernel_rfl) (fun _ _ _ h => h) (by rfl) hS (fun w2 hw2 => ?ry63) ?rr63
          case ry63 => ((try dsimp only at hw2); go_simp <;> with_reducible rfl)
          simp only [Act.put, List.setIfInBounds_toArray, List.set_cons_zero, List.set_cons_succ]
          refine rg_take 38 (v := ?rv64) rfl (by kernel_rfl) (by kernel_rfl) (by kernel_rfl) (fun _ _ _ h => h) (by rfl) hS (fun w2 hw2 => ?ry64) ?rr64
          case ry64 => ((try dsimp only at hw2); go_simp <;> with_reducible rfl)
          simp only [Act.put, List.setIfInBounds_toArray, List.set_cons_zero, List.set_cons_succ]
          refine rg_take 39 (v := ?rv65) rfl (by kernel_rfl) (by kernel_rfl) (by kernel_rfl) (fun _ _ _ h => h) (by rfl) hS (fun w2 hw2 => ?ry65) ?rr65
          case ry65 => ((try dsimp only at hw2); go_simp <;> with_reducible rfl)
          simp only [Act.put, List.setIfInBounds_toArray, List.set_cons_zero, List.set_cons_succ]
          refine rg_take 40 (v := ?rv66) rfl (by kernel_rfl) (by kernel_rfl) (by kernel_rfl) (fun _ _ _ h => h) (by rfl) hS (fun w2 hw2 => ?ry66) ?rr66
          case ry66 => ((try dsimp only at hw2); go_simp <;> with_reducible rfl)
          simp only [Act.put, List.setIfInBounds_toArray, List.set_cons_zero, List.set_cons_succ]
          refine rg_take 41 (v := ?rv67) rfl (by kernel_rfl) (by kernel_rfl) (by kernel_rfl) (fun _ _ _ h => h) (by rfl) hS (fun w2 hw2 => ?ry67) ?rr67
          case ry67 => ((try dsimp only at hw2); go_simp <;> with_reducible rfl)
          simp only [Act.put, List.setIfInBounds_toArray, List.set_cons_zero, List.set_cons_succ]
          refine rg_take 42 (v := ?rv68) rfl (by kernel_rfl) (by kernel_rfl) (by kernel_rfl) (fun _ _ _ h => h) (by rfl) hS (fun w2 hw2 => ?ry68) ?rr68
          case ry68 => ((try dsimp only at hw2); go_simp <;> with_reducible rfl)
          simp only [Act.put, List.setIfInBounds_toArray, List.set_cons_zero, List.set_cons_succ]
          refine rg_take 43 (v := ?rv69) rfl (by kernel_rfl) (by kernel_rfl) (by kernel_rfl) (fun _ _ _ h => h) (by rfl) hS (fun w2 hw2 => ?ry69) ?rr69
          case ry69 => ((try dsimp only at hw2); go_simp <;> with_reducible rfl)
          simp only [Act.put, List.setIfInBounds_toArray, List.set_cons_zero, List.set_cons_succ]
          refine rg_take 44 (v := ?rv70) rfl (by kernel_rfl) (by kernel_rfl) (by kernel_rfl) (fun _ _ _ h => h) (by rfl) hS (fun w2 hw2 => ?ry70) ?rr70
          case ry70 => ((try dsimp only at hw2); go_simp <;> with_reducible rfl)
          simp only [Act.put, List.setIfInBounds_toArray, List.set_cons_zero, List.set_cons_succ]
          refine rg_take 45 (v := ?rv71) rfl (by kernel_rfl) (by kernel_rfl) (by kernel_rfl) (fun _ _ _ h => h) (by rfl) hS (fun w2 hw2 => ?ry71) ?rr71
          case ry71 => ((try dsimp only at hw2); go_simp <;> with_reducible rfl)
          simp only [Act.put, List.setIfInBounds_toArray, List.set_cons_zero, List.set_cons_succ]
          refine rg_take 46 (v := ?rv72) rfl (by kernel_rfl) (by kernel_rfl) (by kernel_rfl) (fun _ _ _ h => h) (by rfl) hS (fun w2 hw2 => ?ry72) ?rr72
          case ry72 => ((try dsimp only at hw2); go_simp <;> with_reducible rfl)
          simp only [Act.put, List.setIfInBounds_toArray, List.set_cons_zero, List.set_cons_succ]
          refine rg_step 47 rfl (by kernel_rfl) (by rfl) (fun K hK => ?_)
          go_simp
          refine (KN4.out _).mono ?_
          rintro e wd ⟨rfl, hb⟩
          replace hS := HSB.out.1 _ _ hS hb
          replace hB := hB.trans (hb.mono hB.size)
          clear hb
          refine hK.out _ _ hS ?_
          clear hK K
          try simp only [Act.put, List.setIfInBounds_toArray, List.set_cons_zero, List.set_cons_succ]
          refine rg_take 48 (v := ?rv73) rfl (by kernel_rfl) (by kernel_rfl) (by kernel_rfl) (fun _ _ _ h => h) (by rfl) hS (fun w2 hw2 => ?ry73) ?rr73
          case ry73 => ((try dsimp only at hw2); go_simp <;> with_reducible rfl)
          simp only [Act.put, List.setIfInBounds_toArray, List.set_cons_zero, List.set_cons_succ]
          refine rg_take 49 (v := ?rv74) rfl (by kernel_rfl) (by kernel_rfl) (by kernel_rfl) (fun _ _ _ h => h) (by rfl) hS (fun w2 hw2 => ?ry74) ?rr74
          case ry74 => ((try dsimp only at hw2); go_simp <;> with_reducible rfl)
          simp only [Act.put, List.setIfInBounds_toArray, List.set_cons_zero, List.set_cons_succ]
          refine rg_take 50 (v := ?rv75) rfl (by kernel_rfl) (by kernel_rfl) (by kernel_rfl) (fun _ _ _ h => h) (by rfl) hS (fun w2 hw2 => ?ry75) ?rr75
          case ry75 => ((try dsimp only at hw2); go_simp <;> with_reducible rfl)
          simp only [Act.put, List.setIfInBounds_toArray, List.set_cons_zero, List.set_cons_succ]
          refine rg_take 51 (v := ?rv76) rfl (by kernel_rfl) (by kernel_rfl) (by kernel_rfl) (fun _ _ _ h => h) (by rfl) hS (fun w2 hw2 => ?ry76) ?rr76
          case ry76 => ((try dsimp only at hw2); go_simp <;> with_reducible rfl)
          simp only [Act.put, List.setIfInBounds_toArray, List.set_cons_zero, List.set_cons_succ]
          refine rg_take 52 (v := ?rv77) rfl (by kernel_rfl) (by kernel_rfl) (by kernel_rfl) (fun _ _ _ h => h) (by rfl) hS (fun w2 hw2 => ?ry77) ?rr77
          case ry77 => ((try dsimp only at hw2); go_simp <;> with_reducible rfl)
          simp only [Act.put, List.setIfInBounds_toArray, List.set_cons_zero, List.set_cons_succ]
          refine rg_step 53 rfl (by kernel_rfl) (by rfl) (fun K hK => ?_)
          go_simp
          refine (KN5.out _).mono ?_
          rintro e wd ⟨rfl, rfl⟩
          refine hK.out _ _ hS ?_
          clear hK K
          try simp only [Act.put, List.setIfInBounds_toArray, List.set_cons_zero, List.set_cons_succ]
          refine rg_take 54 (v := ?rv78) rfl (by kernel_rfl) (by kernel_rfl) (by kernel_rfl) (fun _ _ _ h => h) (by rfl) hS (fun w2 hw2 => ?ry78) ?rr78
          case ry78 => ((try dsimp only at hw2); go_simp <;> with_reducible rfl)
          simp only [Act.put, List.setIfInBounds_toArray, List.set_cons_zero, List.set_cons_succ]
          refine rg_take 55 (v := ?rv79) rfl (by kernel_rfl) (by kernel_rfl) (by kernel_rfl) (fun _ _ _ h => h) (by rfl) hS (fun w2 hw2 => ?ry79) ?rr79
          case ry79 => ((try dsimp only at hw2); go_simp <;> with_reducible rfl)
          simp only [Act.put, List.setIfInBounds_toArray, List.set_cons_zero, List.set_cons_succ]
          refine rg_take 56 (v := ?rv80) rfl (by kernel_rfl) (by kernel_rfl) (by kernel_rfl) (fun _ _ _ h => h) (by rfl) hS (fun w2 hw2 => ?ry80) ?rr80
          case ry80 => ((try dsimp only at hw2); go_simp <;> with_reducible rfl)
          simp only [Act.put, List.setIfInBounds_toArray, List.set_cons_zero, List.set_cons_succ]
          refine rg_done (by kernel_rfl) ?_
          clear hS
          go_wp2_with fail
          go_ret
          exact ⟨rfl, hB⟩
        · rw [if_neg (by omega)] at HE
          go_wp2_with (first
            | (refine KN.out.mono ?_; rintro e w4 ⟨rfl, b4⟩)
            | (go_at_call 20; refine (KA.out _).mono ?_; rintro e w5 ⟨rfl, b5⟩)
            | (go_at_call 22; refine (KB.out 18 _).mono ?_; rintro e w6 ⟨rfl, b6⟩))
          have b45 : Below wr.heap.size wr w5 := (b4.alloc b4.size _).trans (b5.mono (b4.alloc b4.size _).size)
          have b456 : Below wr.heap.size wr w6 := b45.trans (b6.mono b45.size)
          have hZ : (w6.alloc (.cells #[.int .i64 18, .int .i64 0, .bool false] 39)).heap[w6.heap.size]? = some (.cells #[.int .i64 18, .int .i64 0, .bool false] 39 (0, 0)) := heap_alloc_new w6 _
          have bW : Below wr.heap.size wr (w6.alloc (.cells #[.int .i64 18, .int .i64 0, .bool false] 39)) := b456.alloc b456.size _
          obtain ⟨W, hW⟩ : ∃ W, w6.alloc (.cells #[.int .i64 18, .int .i64 0, .bool false] 39) = W := ⟨_, rfl⟩
          rw [hW] at hZ bW ⊢
          obtain ⟨Z, hZe⟩ : ∃ Z, Z = w6.heap.size := ⟨_, rfl⟩
          rw [← hZe] at hZ ⊢
          have hZw : wr.heap.size ≤ Z := hZe ▸ b456.size
          have hrg : W.rangeAt Z 0 [.int .i64 18, .int .i64 0, .bool false] := fun j v hj => by
            rw [Nat.zero_add, cell_of_row W Z _ _ _ _ hZ, ← Array.getElem?_toList]
            exact hj
          have HQ := Lib.hid (HS.out.later bW)
          have HWB := Lib.hid (HB0.out.trans (bW.mono HB0.out.size))
          have bW2 := Lib.hid bW
          have hlZ : Z < W.heap.size := (Array.getElem?_eq_some_iff.1 hZ).1
          clear hW hZe b4 b5 b6 b45 b456 hZ
          obtain ⟨S, hSd⟩ : ∃ S : World → Prop, S = fun w' => w'.rangeAt Z 0 [.int .i64 18, .int .i64 0, .bool false] ∧ Z < w'.heap.size := ⟨_, rfl⟩
          have hS : Kp S W.drew := by unfold Kp; rw [hSd]; exact ⟨hrg, hlZ⟩
          have hSb : ∀ w1 w2, Kp S w1 → Below w1.heap.size w1 w2 → Kp S w2 := fun w1 w2 h hb => by
            unfold Kp at h ⊢
            rw [hSd] at h ⊢
            exact ⟨range_later h.1 hb (Nat.le_refl _), Nat.lt_of_lt_of_le h.2 hb.size⟩
          have hS1 : ∀ w', Kp S w' → w'.rangeAt Z 0 [.int .i64 18, .int .i64 0, .bool false] := fun w' h => by unfold Kp at h; rw [hSd] at h; exact h.1
          have HSB := Lib.hid (And.intro hSb hS1)
          have HSd := Lib.hid hSd
          clear hSb hS1 hSd hrg bW hlZ
          have KR := Lib.hid fun (w1 : World) (hb : Below w.heap.size w w1) (c : Int) => is_res (HG.out.later hb (Nat.le_refl _)) id c
          have KR2 := Lib.hid fun (w1 : World) (hb : Below w.heap.size w w1) (i c : Int) => is_res (HG.out.later hb (Nat.le_refl _)) i c
          have KR3 := Lib.hid fun (w1 : World) (hb : Below w.heap.size w w1) => is_ref (HG.out.later hb (Nat.le_refl _)) id 2 (by decide)
          have KN1 := Lib.hid fun w1 => push_nil id t w1
          have KN2 := Lib.hid fun w1 => move_nil id t w1
          have KN3 := Lib.hid fun w1 => cancel_nil id w1
          have KN4 := Lib.hid fun w1 => due_nil t w1
          have KN5 := Lib.hid fun w1 => len_nil w1
          obtain ⟨ob, hq, hlo, _⟩ := HS.out
          have hoZ : ob ≠ some Z := fun e => by have := hq.lto e; omega
          have hgZ : Z ≠ g := fun e => by have := hq.lt; omega
          replace hq := hq.later bW2.out (Nat.le_refl _)
          have hle : (ents (List.replicate 50 t) k).length = k := ents_length _ _
          go_wp2_with fail
          refine rg_begin (Kp S) 57 (by kernel_rfl) rfl ?_
          have hB : Below w.heap.size w W.drew := below_of_drew HWB.out
          have hqd : QL W.drew g ob k (ents (List.replicate 50 t) k) := hq.later (below_of_drew (Below.refl W.heap.size W)) (Nat.le_refl _)
          have hZd : Z < W.drew.heap.size := by unfold Kp at hS; rw [HSd.out] at hS; exact hS.2
          obtain ⟨W0, hW0⟩ : ∃ W0, W.drew = W0 := ⟨_, rfl⟩
          rw [hW0] at hS hB hqd hZd ⊢
          clear hW0 hq
          refine rg_take 0 (v := ?rv81) rfl (by kernel_rfl) (by kernel_rfl) (by kernel_rfl) (fun _ _ _ h => h) (by rfl) hS (fun w2 hw2 => ?ry81) ?rr81
          case ry81 => ((try dsimp only at hw2); go_simp <;> with_reducible rfl)
          simp only [Act.put, List.setIfInBounds_toArray, List.set_cons_zero, List.set_cons_succ]
          refine rg_take 1 (v := ?rv82) rfl (by kernel_rfl) (by kernel_rfl) (by kernel_rfl) (fun _ _ _ h => h) (by rfl) hS (fun w2 hw2 => ?ry82) ?rr82
          case ry82 => ((try dsimp only at hw2); go_simp <;> with_reducible rfl)
          simp only [Act.put, List.setIfInBounds_toArray, List.set_cons_zero, List.set_cons_succ]
          refine rg_take 2 (v := ?rv83) rfl (by kernel_rfl) (by kernel_rfl) (by kernel_rfl) (fun _ _ _ h => h) (by rfl) hS (fun w2 hw2 => ?ry83) ?rr83
          case ry83 => ((try dsimp only at hw2); go_simp <;> with_reducible rfl)
          simp only [Act.put, List.setIfInBounds_toArray, List.set_cons_zero, List.set_cons_succ]
          refine rg_load 4 rfl (by kernel_rfl) (by kernel_rfl) (by kernel_rfl) (Z) (0) (#[.int .i64 18, .int .i64 0, .bool false]) (fun _ _ _ h => h) (by rfl) 39 (.tmp 14) rfl rfl hS (fun w2 h2 => HSB.out.2 w2 h2) Tryd.underlying39 rfl (by kernel_rfl) ?_
          simp only [Act.put, List.setIfInBounds_toArray, List.set_cons_zero, List.set_cons_succ]
          refine rg_step 3 rfl (by kernel_rfl) (by rfl) (fun K hK => ?_)
          go_simp
          refine (push_L hqd (by rw [hle]; omega) id t).mono ?_
          rintro e wa ⟨rfl, ob1, hq1, hm1, hf1⟩
          rw [HE.out]
          have hpl := push_same (cap := k) (L := ents (List.replicate 50 t) k) (id := id) t (by rw [HE.out]; decide)
          rw [hpl] at hq1
          have hSa : Kp S wa := by
            have hr := HSB.out.2 _ hS
            unfold Kp
            rw [HSd.out]
            exact ⟨fun i u hu => (World.cell?_of_block (w := W0) (a := ⟨Z, 0 + i, none⟩) (hm1.block Z hZd hgZ (fun e => hoZ e.symm))).trans (hr i u hu), Nat.lt_of_lt_of_le hZd hm1.size⟩
          have hBa := hm1.lo hB hlo hB.size
          have hlo1 := hlo.fresh hf1 hB.size
          have hoZ1 : ob1 ≠ some Z := by
            rcases hf1 with e | ⟨b', e, hb'⟩
            · rw [e]; exact hoZ
            · rw [e]; intro e2; have := Option.some.inj e2; omega
          have hZa : Z < wa.heap.size := Nat.lt_of_lt_of_le hZd hm1.size
          clear hS hB hlo hoZ hZd hm1 hf1 hpl hqd
          have hS := hSa
          have hB := hBa
          clear hSa hBa
          refine hK.out _ _ hS ?_
          clear hK K
          try simp only [Act.put, List.setIfInBounds_toArray, List.set_cons_zero, List.set_cons_succ]
          refine rg_step 5 rfl (by kernel_rfl) (by rfl) (fun K hK => ?_)
          go_simp
          refine (KR.out _ hB 18).mono ?_
          rintro e wb ⟨rfl, hb⟩
          replace hS := HSB.out.1 _ _ hS hb
          replace hB := hB.trans (hb.mono hB.size)
          replace hq1 := hq1.later hb (Nat.le_refl _)
          replace hZa := Nat.lt_of_lt_of_le hZa hb.size
          clear hb
          refine hK.out _ _ hS ?_
          clear hK K
          try simp only [Act.put, List.setIfInBounds_toArray, List.set_cons_zero, List.set_cons_succ]
          refine rg_take 6 (v := ?rv84) rfl (by kernel_rfl) (by kernel_rfl) (by kernel_rfl) (fun _ _ _ h => h) (by rfl) hS (fun w2 hw2 => ?ry84) ?rr84
          case ry84 => ((try dsimp only at hw2); go_simp <;> with_reducible rfl)
          simp only [Act.put, List.setIfInBounds_toArray, List.set_cons_zero, List.set_cons_succ]
          refine rg_take 7 (v := ?rv85) rfl (by kernel_rfl) (by kernel_rfl) (by kernel_rfl) (fun _ _ _ h => h) (by rfl) hS (fun w2 hw2 => ?ry85) ?rr85
          case ry85 => ((try dsimp only at hw2); go_simp <;> with_reducible rfl)
          simp only [Act.put, List.setIfInBounds_toArray, List.set_cons_zero, List.set_cons_succ]
          refine rg_take 8 (v := ?rv86) rfl (by kernel_rfl) (by kernel_rfl) (by kernel_rfl) (fun _ _ _ h => h) (by rfl) hS (fun w2 hw2 => ?ry86) ?rr86
          case ry86 => ((try dsimp only at hw2); go_simp <;> with_reducible rfl)
          simp only [Act.put, List.setIfInBounds_toArray, List.set_cons_zero, List.set_cons_succ]
          refine rg_step 9 rfl (by kernel_rfl) (by rfl) (fun K hK => ?_)
          go_simp
          refine (push_L hq1 (by rw [hle]; omega) (-1) t).mono ?_
          rintro e wc ⟨rfl, ob2, _, hm1, _⟩
          rw [show pushE k (ents (List.replicate 50 t) k) (-1) = 18 by rw [full_push]; rfl]
          have hSa : Kp S wc := by
            have hr := HSB.out.2 _ hS
            unfold Kp
            rw [HSd.out]
            exact ⟨fun i u hu => (World.cell?_of_block (w := wb) (a := ⟨Z, 0 + i, none⟩) (hm1.block Z hZa hgZ (fun e => hoZ1 e.symm))).trans (hr i u hu), Nat.lt_of_lt_of_le hZa hm1.size⟩
          replace hB := hm1.lo hB hlo1 hB.size
          clear hS hlo1 hoZ1 hZa hm1 hq1
          have hS := hSa
          clear hSa
          refine hK.out _ _ hS ?_
          clear hK K
          try simp only [Act.put, List.setIfInBounds_toArray, List.set_cons_zero, List.set_cons_succ]
          refine rg_step 10 rfl (by kernel_rfl) (by rfl) (fun K hK => ?_)
          go_simp
          refine (KB.out 18 _).mono ?_
          rintro e wd ⟨rfl, hb⟩
          replace hS := HSB.out.1 _ _ hS hb
          replace hB := hB.trans (hb.mono hB.size)
          clear hb
          refine hK.out _ _ hS ?_
          clear hK K
          try simp only [Act.put, List.setIfInBounds_toArray, List.set_cons_zero, List.set_cons_succ]
          refine rg_step 11 rfl (by kernel_rfl) (by rfl) (fun K hK => ?_)
          go_simp
          refine (KR2.out _ hB (-1) 18).mono ?_
          rintro e wd ⟨rfl, hb⟩
          replace hS := HSB.out.1 _ _ hS hb
          replace hB := hB.trans (hb.mono hB.size)
          clear hb
          refine hK.out _ _ hS ?_
          clear hK K
          try simp only [Act.put, List.setIfInBounds_toArray, List.set_cons_zero, List.set_cons_succ]
          refine rg_take 12 (v := ?rv87) rfl (by kernel_rfl) (by kernel_rfl) (by kernel_rfl) (fun _ _ _ h => h) (by rfl) hS (fun w2 hw2 => ?ry87) ?rr87
          case ry87 => ((try dsimp only at hw2); go_simp <;> with_reducible rfl)
          simp only [Act.put, List.setIfInBounds_toArray, List.set_cons_zero, List.set_cons_succ]
          refine rg_take 13 (v := ?rv88) rfl (by kernel_rfl) (by kernel_rfl) (by kernel_rfl) (fun _ _ _ h => h) (by rfl) hS (fun w2 hw2 => ?ry88) ?rr88
          case ry88 => ((try dsimp only at hw2); go_simp <;> with_reducible rfl)
          simp only [Act.put, List.setIfInBounds_toArray, List.set_cons_zero, List.set_cons_succ]
          refine rg_take 14 (v := ?rv89) rfl (by kernel_rfl) (by kernel_rfl) (by kernel_rfl) (fun _ _ _ h => h) (by rfl) hS (fun w2 hw2 => ?ry89) ?rr89
          case ry89 => ((try dsimp only at hw2); go_simp <;> with_reducible rfl)
          simp only [Act.put, List.setIfInBounds_toArray, List.set_cons_zero, List.set_cons_succ]
          refine rg_take 15 (v := ?rv90) rfl (by kernel_rfl) (by kernel_rfl) (by kernel_rfl) (fun _ _ _ h => h) (by rfl) hS (fun w2 hw2 => ?ry90) ?rr90
          case ry90 => ((try dsimp only at hw2); go_simp <;> with_reducible rfl)
          simp only [Act.put, List.setIfInBounds_toArray, List.set_cons_zero, List.set_cons_succ]
          refine rg_take 16 (v := ?rv91) rfl (by kernel_rfl) (by kernel_rfl) (by kernel_rfl) (fun _ _ _ h => h) (by rfl) hS (fun w2 hw2 => ?ry91) ?rr91
          case ry91 => ((try dsimp only at hw2); go_simp <;> with_reducible rfl)
          simp only [Act.put, List.setIfInBounds_toArray, List.set_cons_zero, List.set_cons_succ]
          refine rg_step 17 rfl (by kernel_rfl) (by rfl) (fun K hK => ?_)
          go_simp
          refine (KN1.out _).mono ?_
          rintro e wd ⟨rfl, hb⟩
          replace hS := HSB.out.1 _ _ hS hb
          replace hB := hB.trans (hb.mono hB.size)
          clear hb
          refine hK.out _ _ hS ?_
          clear hK K
          try simp only [Act.put, List.setIfInBounds_toArray, List.set_cons_zero, List.set_cons_succ]
          refine rg_step 18 rfl (by kernel_rfl) (by rfl) (fun K hK => ?_)
          go_simp
          refine (KB.out 2 _).mono ?_
          rintro e wd ⟨rfl, hb⟩
          replace hS := HSB.out.1 _ _ hS hb
          replace hB := hB.trans (hb.mono hB.size)
          clear hb
          refine hK.out _ _ hS ?_
          clear hK K
          try simp only [Act.put, List.setIfInBounds_toArray, List.set_cons_zero, List.set_cons_succ]
          refine rg_step 19 rfl (by kernel_rfl) (by rfl) (fun K hK => ?_)
          go_simp
          refine (KR3.out _ hB).mono ?_
          rintro e wd ⟨rfl, hb⟩
          replace hS := HSB.out.1 _ _ hS hb
          replace hB := hB.trans (hb.mono hB.size)
          clear hb
          refine hK.out _ _ hS ?_
          clear hK K
          try simp only [Act.put, List.setIfInBounds_toArray, List.set_cons_zero, List.set_cons_succ]
          refine rg_take 20 (v := ?rv92) rfl (by kernel_rfl) (by kernel_rfl) (by kernel_rfl) (fun _ _ _ h => h) (by rfl) hS (fun w2 hw2 => ?ry92) ?rr92
          case ry92 => ((try dsimp only at hw2); go_simp <;> with_reducible rfl)
          simp only [Act.put, List.setIfInBounds_toArray, List.set_cons_zero, List.set_cons_succ]
          refine rg_take 21 (v := ?rv93) rfl (by kernel_rfl) (by kernel_rfl) (by kernel_rfl) (fun _ _ _ h => h) (by rfl) hS (fun w2 hw2 => ?ry93) ?rr93
          case ry93 => ((try dsimp only at hw2); go_simp <;> with_reducible rfl)
          simp only [Act.put, List.setIfInBounds_toArray, List.set_cons_zero, List.set_cons_succ]
          refine rg_take 22 (v := ?rv94) rfl (by kernel_rfl) (by kernel_rfl) (by kernel_rfl) (fun _ _ _ h => h) (by rfl) hS (fun w2 hw2 => ?ry94) ?rr94
          case ry94 => ((try dsimp only at hw2); go_simp <;> with_reducible rfl)
          simp only [Act.put, List.setIfInBounds_toArray, List.set_cons_zero, List.set_cons_succ]
          refine rg_take 23 (v := ?rv95) rfl (by kernel_rfl) (by kernel_rfl) (by kernel_rfl) (fun _ _ _ h => h) (by rfl) hS (fun w2 hw2 => ?ry95) ?rr95
          case ry95 => ((try dsimp only at hw2); go_simp <;> with_reducible rfl)
          simp only [Act.put, List.setIfInBounds_toArray, List.set_cons_zero, List.set_cons_succ]
          refine rg_take 24 (v := ?rv96) rfl (by kernel_rfl) (by kernel_rfl) (by kernel_rfl) (fun _ _ _ h => h) (by rfl) hS (fun w2 hw2 => ?ry96) ?rr96
          case ry96 => ((try dsimp only at hw2); go_simp <;> with_reducible rfl)
          simp only [Act.put, List.setIfInBounds_toArray, List.set_cons_zero, List.set_cons_succ]
          refine rg_step 25 rfl (by kernel_rfl) (by rfl) (fun K hK => ?_)
          go_simp
          refine (KN2.out _).mono ?_
          rintro e wd ⟨rfl, hb⟩
          replace hS := HSB.out.1 _ _ hS hb
          replace hB := hB.trans (hb.mono hB.size)
          clear hb
          refine hK.out _ _ hS ?_
          clear hK K
          try simp only [Act.put, List.setIfInBounds_toArray, List.set_cons_zero, List.set_cons_succ]
          refine rg_step 26 rfl (by kernel_rfl) (by rfl) (fun K hK => ?_)
          go_simp
          refine (KB.out 2 _).mono ?_
          rintro e wd ⟨rfl, hb⟩
          replace hS := HSB.out.1 _ _ hS hb
          replace hB := hB.trans (hb.mono hB.size)
          clear hb
          refine hK.out _ _ hS ?_
          clear hK K
          try simp only [Act.put, List.setIfInBounds_toArray, List.set_cons_zero, List.set_cons_succ]
          refine rg_step 27 rfl (by kernel_rfl) (by rfl) (fun K hK => ?_)
          go_simp
          refine (KR3.out _ hB).mono ?_
          rintro e wd ⟨rfl, hb⟩
          replace hS := HSB.out.1 _ _ hS hb
          replace hB := hB.trans (hb.mono hB.size)
          clear hb
          refine hK.out _ _ hS ?_
          clear hK K
          try simp only [Act.put, List.setIfInBounds_toArray, List.set_cons_zero, List.set_cons_succ]
          refine rg_take 28 (v := ?rv97) rfl (by kernel_rfl) (by kernel_rfl) (by kernel_rfl) (fun _ _ _ h => h) (by rfl) hS (fun w2 hw2 => ?ry97) ?rr97
          case ry97 => ((try dsimp only at hw2); go_simp <;> with_reducible rfl)
          simp only [Act.put, List.setIfInBounds_toArray, List.set_cons_zero, List.set_cons_succ]
          refine rg_take 29 (v := ?rv98) rfl (by kernel_rfl) (by kernel_rfl) (by kernel_rfl) (fun _ _ _ h => h) (by rfl) hS (fun w2 hw2 => ?ry98) ?rr98
          case ry98 => ((try dsimp only at hw2); go_simp <;> with_reducible rfl)
          simp only [Act.put, List.setIfInBounds_toArray, List.set_cons_zero, List.set_cons_succ]
          refine rg_take 30 (v := ?rv99) rfl (by kernel_rfl) (by kernel_rfl) (by kernel_rfl) (fun _ _ _ h => h) (by rfl) hS (fun w2 hw2 => ?ry99) ?rr99
          case ry99 => ((try dsimp only at hw2); go_simp <;> with_reducible rfl)
          simp only [Act.put, List.setIfInBounds_toArray, List.set_cons_zero, List.set_cons_succ]
          refine rg_take 31 (v := ?rv100) rfl (by kernel_rfl) (by kernel_rfl) (by kernel_rfl) (fun _ _ _ h => h) (by rfl) hS (fun w2 hw2 => ?ry100) ?rr100
          case ry100 => ((try dsimp only at hw2); go_simp <;> with_reducible rfl)
          simp only [Act.put, List.setIfInBounds_toArray, List.set_cons_zero, List.set_cons_succ]
          refine rg_step 32 rfl (by kernel_rfl) (by rfl) (fun K hK => ?_)
          go_simp
          refine (KN3.out _).mono ?_
          rintro e wd ⟨rfl, hb⟩
          replace hS := HSB.out.1 _ _ hS hb
          replace hB := hB.trans (hb.mono hB.size)
          clear hb
          refine hK.out _ _ hS ?_
          clear hK K
          try simp only [Act.put, List.setIfInBounds_toArray, List.set_cons_zero, List.set_cons_succ]
          refine rg_step 33 rfl (by kernel_rfl) (by rfl) (fun K hK => ?_)
          go_simp
          refine (KB.out 2 _).mono ?_
          rintro e wd ⟨rfl, hb⟩
          replace hS := HSB.out.1 _ _ hS hb
          replace hB := hB.trans (hb.mono hB.size)
          clear hb
          refine hK.out _ _ hS ?_
          clear hK K
          try simp only [Act.put, List.setIfInBounds_toArray, List.set_cons_zero, List.set_cons_succ]
          refine rg_step 34 rfl (by kernel_rfl) (by rfl) (fun K hK => ?_)
          go_simp
          refine (KR3.out _ hB).mono ?_
          rintro e wd ⟨rfl, hb⟩
          replace hS := HSB.out.1 _ _ hS hb
          replace hB := hB.trans (hb.mono hB.size)
          clear hb
          refine hK.out _ _ hS ?_
          clear hK K
          try simp only [Act.put, List.setIfInBounds_toArray, List.set_cons_zero, List.set_cons_succ]
          refine rg_take 35 (v := ?rv101) rfl (by kernel_rfl) (by kernel_rfl) (by kernel_rfl) (fun _ _ _ h => h) (by rfl) hS (fun w2 hw2 => ?ry101) ?rr101
          case ry101 => ((try dsimp only at hw2); go_simp <;> with_reducible rfl)
          simp only [Act.put, List.setIfInBounds_toArray, List.set_cons_zero, List.set_cons_succ]
          refine rg_take 36 (v := ?rv102) rfl (by kernel_rfl) (by kernel_rfl) (by kernel_rfl) (fun _ _ _ h => h) (by rfl) hS (fun w2 hw2 => ?ry102) ?rr102
          case ry102 => ((try dsimp only at hw2); go_simp <;> with_reducible rfl)
          simp only [Act.put, List.setIfInBounds_toArray, List.set_cons_zero, List.set_cons_succ]
          refine rg_take 37 (v := ?rv103) rfl (by kernel_rfl) (by kernel_rfl) (by kernel_rfl) (fun _ _ _ h => h) (by rfl) hS (fun w2 hw2 => ?ry103) ?rr103
          case ry103 => ((try dsimp only at hw2); go_simp <;> with_reducible rfl)
          simp only [Act.put, List.setIfInBounds_toArray, List.set_cons_zero, List.set_cons_succ]
          refine rg_take 38 (v := ?rv104) rfl (by kernel_rfl) (by kernel_rfl) (by kernel_rfl) (fun _ _ _ h => h) (by rfl) hS (fun w2 hw2 => ?ry104) ?rr104
          case ry104 => ((try dsimp only at hw2); go_simp <;> with_reducible rfl)
          simp only [Act.put, List.setIfInBounds_toArray, List.set_cons_zero, List.set_cons_succ]
          refine rg_take 39 (v := ?rv105) rfl (by kernel_rfl) (by kernel_rfl) (by kernel_rfl) (fun _ _ _ h => h) (by rfl) hS (fun w2 hw2 => ?ry105) ?rr105
          case ry105 => ((try dsimp only at hw2); go_simp <;> with_reducible rfl)
          simp only [Act.put, List.setIfInBounds_toArray, List.set_cons_zero, List.set_cons_succ]
          refine rg_take 40 (v := ?rv106) rfl (by kernel_rfl) (by kernel_rfl) (by kernel_rfl) (fun _ _ _ h => h) (by rfl) hS (fun w2 hw2 => ?ry106) ?rr106
          case ry106 => ((try dsimp only at hw2); go_simp <;> with_reducible rfl)
          simp only [Act.put, List.setIfInBounds_toArray, List.set_cons_zero, List.set_cons_succ]
          refine rg_take 41 (v := ?rv107) rfl (by kernel_rfl) (by kernel_rfl) (by kernel_rfl) (fun _ _ _ h => h) (by rfl) hS (fun w2 hw2 => ?ry107) ?rr107
          case ry107 => ((try dsimp only at hw2); go_simp <;> with_reducible rfl)
          simp only [Act.put, List.setIfInBounds_toArray, List.set_cons_zero, List.set_cons_succ]
          refine rg_take 42 (v := ?rv108) rfl (by kernel_rfl) (by kernel_rfl) (by kernel_rfl) (fun _ _ _ h => h) (by rfl) hS (fun w2 hw2 => ?ry108) ?rr108
          case ry108 => ((try dsimp only at hw2); go_simp <;> with_reducible rfl)
          simp only [Act.put, List.setIfInBounds_toArray, List.set_cons_zero, List.set_cons_succ]
          refine rg_take 43 (v := ?rv109) rfl (by kernel_rfl) (by kernel_rfl) (by kernel_rfl) (fun _ _ _ h => h) (by rfl) hS (fun w2 hw2 => ?ry109) ?rr109
          case ry109 => ((try dsimp only at hw2); go_simp <;> with_reducible rfl)
          simp only [Act.put, List.setIfInBounds_toArray, List.set_cons_zero, List.set_cons_succ]
          refine rg_take 44 (v := ?rv110) rfl (by kernel_rfl) (by kernel_rfl) (by kernel_rfl) (fun _ _ _ h => h) (by rfl) hS (fun w2 hw2 => ?ry110) ?rr110
          case ry110 => ((try dsimp only at hw2); go_simp <;> with_reducible rfl)
          simp only [Act.put, List.setIfInBounds_toArray, List.set_cons_zero, List.set_cons_succ]
          refine rg_take 45 (v := ?rv111) rfl (by kernel_rfl) (by kernel_rfl) (by kernel_rfl) (fun _ _ _ h => h) (by rfl) hS (fun w2 hw2 => ?ry111) ?rr111
          case ry111 => ((try dsimp only at hw2); go_simp <;> with_reducible rfl)
          simp only [Act.put, List.setIfInBounds_toArray, List.set_cons_zero, List.set_cons_succ]
          refine rg_take 46 (v := ?rv112) rfl (by kernel_rfl) (by kernel_rfl) (by kernel_rfl) (fun _ _ _ h => h) (by rfl) hS (fun w2 hw2 => ?ry112) ?rr112
          case ry112 => ((try dsimp only at hw2); go_simp <;> with_reducible rfl)
          simp only [Act.put, List.setIfInBounds_toArray, List.set_cons_zero, List.set_cons_succ]
          refine rg_step 47 rfl (by kernel_rfl) (by rfl) (fun K hK => ?_)
          go_simp
          refine (KN4.out _).mono ?_
          rintro e wd ⟨rfl, hb⟩
          replace hS := HSB.out.1 _ _ hS hb
          replace hB := hB.trans (hb.mono hB.size)
          clear hb
          refine hK.out _ _ hS ?_
          clear hK K
          try simp only [Act.put, List.setIfInBounds_toArray, List.set_cons_zero, List.set_cons_succ]
          refine rg_take 48 (v := ?rv113) rfl (by kernel_rfl) (by kernel_rfl) (by kernel_rfl) (fun _ _ _ h => h) (by rfl) hS (fun w2 hw2 => ?ry113) ?rr113
          case ry113 => ((try dsimp only at hw2); go_simp <;> with_reducible rfl)
          simp only [Act.put, List.setIfInBounds_toArray, List.set_cons_zero, List.set_cons_succ]
          refine rg_take 49 (v := ?rv114) rfl (by kernel_rfl) (by kernel_rfl) (by kernel_rfl) (fun _ _ _ h => h) (by rfl) hS (fun w2 hw2 => ?ry114) ?rr114
          case ry114 => ((try dsimp only at hw2); go_simp <;> with_reducible rfl)
          simp only [Act.put, List.setIfInBounds_toArray, List.set_cons_zero, List.set_cons_succ]
          refine rg_take 50 (v := ?rv115) rfl (by kernel_rfl) (by kernel_rfl) (by kernel_rfl) (fun _ _ _ h => h) (by rfl) hS (fun w2 hw2 => ?ry115) ?rr115
          case ry115 => ((try dsimp only at hw2); go_simp <;> with_reducible rfl)
          simp only [Act.put, List.setIfInBounds_toArray, List.set_cons_zero, List.set_cons_succ]
          refine rg_take 51 (v := ?rv116) rfl (by kernel_rfl) (by kernel_rfl) (by kernel_rfl) (fun _ _ _ h => h) (by rfl) hS (fun w2 hw2 => ?ry116) ?rr116
          case ry116 => ((try dsimp only at hw2); go_simp <;> with_reducible rfl)
          simp only [Act.put, List.setIfInBounds_toArray, List.set_cons_zero, List.set_cons_succ]
          refine rg_take 52 (v := ?rv117) rfl (by kernel_rfl) (by kernel_rfl) (by kernel_rfl) (fun _ _ _ h => h) (by rfl) hS (fun w2 hw2 => ?ry117) ?rr117
          case ry117 => ((try dsimp only at hw2); go_simp <;> with_reducible rfl)
          simp only [Act.put, List.setIfInBounds_toArray, List.set_cons_zero, List.set_cons_succ]
          refine rg_step 53 rfl (by kernel_rfl) (by rfl) (fun K hK => ?_)
          go_simp
          refine (KN5.out _).mono ?_
          rintro e wd ⟨rfl, rfl⟩
          refine hK.out _ _ hS ?_
          clear hK K
          try simp only [Act.put, List.setIfInBounds_toArray, List.set_cons_zero, List.set_cons_succ]
          refine rg_take 54 (v := ?rv118) rfl (by kernel_rfl) (by kernel_rfl) (by kernel_rfl) (fun _ _ _ h => h) (by rfl) hS (fun w2 hw2 => ?ry118) ?rr118
          case ry118 => ((try dsimp only at hw2); go_simp <;> with_reducible rfl)
          simp only [Act.put, List.setIfInBounds_toArray, List.set_cons_zero, List.set_cons_succ]
          refine rg_take 55 (v := ?rv119) rfl (by kernel_rfl) (by kernel_rfl) (by kernel_rfl) (fun _ _ _ h => h) (by rfl) hS (fun w2 hw2 => ?ry119) ?rr119
          case ry119 => ((try dsimp only at hw2); go_simp <;> with_reducible rfl)
          simp only [Act.put, List.setIfInBounds_toArray, List.set_cons_zero, List.set_cons_succ]
          refine rg_take 56 (v := ?rv120) rfl (by kernel_rfl) (by kernel_rfl) (by kernel_rfl) (fun _ _ _ h => h) (by rfl) hS (fun w2 hw2 => ?ry120) ?rr120
          case ry120 => ((try dsimp only at hw2); go_simp <;> with_reducible rfl)
          simp only [Act.put, List.setIfInBounds_toArray, List.set_cons_zero, List.set_cons_succ]
          refine rg_done (by kernel_rfl) ?_
          clear hS
          go_wp2_with fail
          go_ret
          exact ⟨rfl, hB⟩
-->>
end Go.Proofs.YtdpmjbhkmfjpfaaDoor
