/-
  The document's own table of what ends when: Push, Cancel, Move. Conditions: those of the table.
-/
import Derived.Test.YtdpmjbhkmfjpfaaDoorEd17
namespace Go.Proofs.YtdpmjbhkmfjpfaaDoor
open Go.RowKit
set_option maxRecDepth 100000

theorem enC_set : ∀ {xs : List En} {i : Nat} {x : En} (t : Int), xs[i]? = some x → enC (xs.set i ⟨x.id, t⟩) = (enC xs).set (i * 2 + 1) (.int .u64 t)
  | [], i, x, t, h => by simp at h
  | a :: xs, 0, x, t, h => by
    obtain rfl : a = x := by simpa using h
    rfl
  | a :: xs, i + 1, x, t, h => by
    have h1 : xs[i]? = some x := by simpa using h
    rw [List.set_cons_succ, enC_cons, enC_set t h1, show (i + 1) * 2 + 1 = i * 2 + 1 + 1 + 1 by omega, enC_cons, List.set_cons_succ, List.set_cons_succ]
theorem EO.set {w : World} {b c n : Nat} {xs : List En} (h : EO w (.slice (some ⟨b, 0, none⟩) n c) xs) (hn : n = xs.length) {i : Nat} {x : En} (hx : xs[i]? = some x) (t : Int) : EO (w.setCell ⟨b, i * 2 + 1, none⟩ (.int .u64 t)) (.slice (some ⟨b, 0, none⟩) n c) (xs.set i ⟨x.id, t⟩) := by
  subst hn
  have h2 := (World.ownsRow.stored h (i * 2 + 1) (.int .u64 t)).1
  unfold EO
  rw [enC_set t hx, List.length_set]
  exact h2
theorem EnS.cut {w : World} {b off n c : Nat} {xs : List En} (h : EnS w (some ⟨b, off, none⟩) n c xs) {i : Nat} (hi : i ≤ n) : EnS w (some ⟨b, off + i * 2, none⟩) (n - i) (c - i) (xs.drop i) :=
  ⟨by rw [List.length_drop, h.len], by have := h.cap; omega, by have := h.max; omega, (fun h => by cases h), fun k e he => by
    rw [List.getElem?_drop] at he
    obtain ⟨b', o', e2, r1, r2⟩ := h.here _ _ he
    cases e2
    refine ⟨b, off + i * 2, rfl, ?_, ?_⟩
    · rw [show off + i * 2 + k * 2 = off + (i + k) * 2 by omega]
      exact r1
    · rw [show off + i * 2 + k * 2 + 1 = off + (i + k) * 2 + 1 by omega]
      exact r2⟩
theorem EnS.cutAt {w : World} {b off n c : Nat} {xs : List En} (h : EnS w (some ⟨b, off, none⟩) n c xs) {i : Nat} (hi : i ≤ n) : EnS w (if c = i then some ⟨b, off, none⟩ else some ⟨b, off + i * 2, none⟩) (n - i) (c - i) (xs.drop i) := by
  by_cases hc : c = i
  · rw [if_pos hc]
    have := h.cap
    have hl : xs.drop i = [] := List.drop_eq_nil_of_le (by rw [h.len]; omega)
    rw [hl]
    exact ⟨by simp; omega, by omega, by have := h.max; omega, (fun h => by cases h), fun k e he => by cases he⟩
  · rw [if_neg hc]
    exact h.cut hi
theorem below_none {B : Nat} {w w1 w2 : World} (h : Below B w w1) (hg : w1.grownBy w2 none) (hB : B ≤ w1.heap.size) : Below B w w2 := h.grown hg hB (fun q hq => by cases hq)
theorem mv_set (w : World) (p : Addr) (v : Value) : Mv p.block none w (w.setCell p v) :=
  have hb := (Below.refl 0 w).setCell (p := p) (Nat.zero_le _) v
  ⟨hb.os, hb.tape, hb.output, hb.size, fun k _ hk _ => Below.heap_setCell w p v k hk⟩
theorem Ed.put {w w5 w7 : World} {e b4 n c4 k i : Nat} {ob : Option Nat} {N : Int} {ys : List En} {x : En} {t : Int} (hE : Ed w5 e (some b4) N ys) (hsl : w5.cell? ⟨e, 1, none⟩ = some (.slice (some ⟨b4, 0, none⟩) n c4)) (hn : n = ys.length) (hM : Mv e none w w5) (hlo : w.heap.size ≤ b4) (hk : w.heap.size ≤ k) (hkb : k ≠ b4) (hke : k ≠ e) (hx : ys[i]? = some x)
    (h7 : Mv k none (w5.setCell ⟨b4, i * 2 + 1, none⟩ (.int .u64 t)) w7) : Ed w7 e (some b4) N (ys.set i ⟨x.id, t⟩) ∧ Mv e none w w7 ∧ Fr ob (some b4) w.heap.size := by
  obtain ⟨⟨v, h1, h2, h3⟩, h4⟩ := hE
  have hv := cell_of_row w5 e 1 _ _ _ h1
  rw [hsl] at hv
  obtain rfl : Value.slice (some ⟨b4, 0, none⟩) n c4 = v := by simpa using hv
  have m6 := mv_set w5 ⟨b4, i * 2 + 1, none⟩ (.int .u64 t)
  have hle : e < w5.heap.size := (Array.getElem?_eq_some_iff.1 h1).1
  have hlb : b4 < w5.heap.size := h2.lt rfl
  have hne : e ≠ b4 := fun e2 => h4 (by rw [e2])
  have o6 := h2.set hn hx t
  have e6 : Ed (w5.setCell ⟨b4, i * 2 + 1, none⟩ (.int .u64 t)) e (some b4) N (ys.set i ⟨x.id, t⟩) := ⟨⟨_, (m6.block e hle hne (by simp)).trans h1, o6, rfl⟩, h4⟩
  refine ⟨e6.keep (h7.block e e6.lt (fun e2 => hke e2.symm) (by simp)) fun b hb => h7.block b (e6.lto hb) (fun e2 => hkb (by rw [← e2]; exact (Option.some.inj hb).symm)) (by simp), (hM.new m6 hlo).new h7 hk, fun b hb => .inr (Option.some.inj hb ▸ hlo)⟩
--<< push
set_option maxHeartbeats 4000000 in
theorem push_E {w : World} {e : Nat} {ob : Option Nat} {N : Int} {ys : List En} (h : Ed w e ob N ys) (hbig : ys.length ≤ 100000) (id t : Int) : Calls Tryd.prog 17 #[.pointer (some ⟨e, 0, none⟩), .int .i64 id, .int .u64 t] w fun ev w' =>
    ev = .returned (.agg #[.int .i64 (pushE (heldV N) ys id), .int .i64 0, .bool false]) ∧ ∃ ob', Ed w' e ob' N (pushL (heldV N) ys id t) ∧ Mv e none w w' ∧ Fr ob ob' w.heap.size := by
  have KP := Lib.hid fun (w1 : World) (hb : Below w.heap.size w w1) => place_any (h.later hb (Nat.le_refl _)) (by omega) id
  have KB := Lib.hid fun (n : Int) (w1 : World) => help_bare n w1
  have KH := Lib.hid fun (w1 : World) => held_any N w1
  have HH := Lib.hid (And.intro h h.lt)
  clear h
  obtain ⟨k, hk⟩ : ∃ k, k = w.heap.size := ⟨_, rfl⟩
  go_enter Tryd.func17, Tryd.ntmps17
  go_wp2_with (refine wpList_alloc_flB rfl rfl ?_; intro w1 a1 b1 s1)
  rw [← hk] at a1 ⊢
  have H1 := Lib.hid (And.intro a1 (And.intro b1 (And.intro s1 hk)))
  clear a1 b1 s1 hk
  refine (KP.out w1 H1.out.2.1).mono ?_
  rintro ev w' ⟨rfl, rfl⟩
  rcases idxv_cases ys id with ⟨hi, hv⟩ | ⟨i, x, hi, _, _, hv⟩
  · rw [hi]
    have HV := Lib.hid hv
    clear hi hv
    go_wp2_with fail
    obtain ⟨A, c, q0, q1, _, _, _⟩ := (HH.out.1.later H1.out.2.1 (Nat.le_refl _)).open_
    have hle : e < w1.heap.size := lt_of_cell' q0
    have c0 : ∀ w', Below w1.heap.size w1 w' → w'.cell? ⟨e, 0, none⟩ = some (.int .i64 N) := fun w' hb => (hb.cell (p := ⟨e, 0, none⟩) hle).trans q0
    have c1 : ∀ w', Below w1.heap.size w1 w' → w'.cell? ⟨e, 1, none⟩ = some (.slice A ys.length c) := fun w' hb => (hb.cell (p := ⟨e, 1, none⟩) hle).trans q1
    clear q0 q1 hle
    have hS : Below w1.heap.size w1 w1.drew := below_of_drew (Below.refl _ _)
    refine rg_begin (fun w' => Below w1.heap.size w1 w') 11 (by kernel_rfl) rfl ?_
    obtain ⟨W, hW⟩ : ∃ W, w1.drew = W := ⟨_, rfl⟩
    rw [hW] at hS ⊢
    clear hW
    refine rg_take 0 (v := ?rv1) rfl (by kernel_rfl) (by kernel_rfl) (by kernel_rfl) (fun _ _ _ h => h) (by rfl) hS (fun w2 hw2 => ?ry1) ?rr1
    case ry1 => ((try dsimp only at hw2); go_simp <;> with_reducible rfl)
    simp only [Act.put, List.setIfInBounds_toArray, List.set_cons_zero, List.set_cons_succ]
    refine rg_take 5 (v := ?rv2) rfl (by kernel_rfl) (by kernel_rfl) (by kernel_rfl) (fun _ _ _ h => h) (by rfl) hS (fun w2 hw2 => ?ry2) ?rr2
    case ry2 => ((try dsimp only at hw2); go_simp <;> with_reducible rfl)
    simp only [Act.put, List.setIfInBounds_toArray, List.set_cons_zero, List.set_cons_succ]
    refine rg_take 1 (v := ?rv3) rfl (by kernel_rfl) (by kernel_rfl) (by kernel_rfl) (fun _ _ _ h => h) (by rfl) hS (fun w2 hw2 => ?ry3) ?rr3
    case ry3 => ((try dsimp only at hw2); go_simp <;> with_reducible rfl)
    simp only [Act.put, List.setIfInBounds_toArray, List.set_cons_zero, List.set_cons_succ]
    refine rg_take 6 (v := ?rv4) rfl (by kernel_rfl) (by kernel_rfl) (by kernel_rfl) (fun _ _ _ h => h) (by rfl) hS (fun w2 hw2 => ?ry4) ?rr4
    case ry4 => ((try dsimp only at hw2); go_simp <;> with_reducible rfl)
    simp only [Act.put, List.setIfInBounds_toArray, List.set_cons_zero, List.set_cons_succ]
    refine rg_take 2 (v := ?rv5) rfl (by kernel_rfl) (by kernel_rfl) (by kernel_rfl) (fun _ _ _ h => h) (by rfl) hS (fun w2 hw2 => ?ry5) ?rr5
    case ry5 => ((try dsimp only at hw2); go_simp <;> with_reducible rfl)
    simp only [Act.put, List.setIfInBounds_toArray, List.set_cons_zero, List.set_cons_succ]
    refine rg_take 7 (v := ?rv6) rfl (by kernel_rfl) (by kernel_rfl) (by kernel_rfl) (fun _ _ _ h => h) (by rfl) hS (fun w2 hw2 => ?ry6) ?rr6
    case ry6 => ((try dsimp only at hw2); go_simp <;> with_reducible rfl)
    simp only [Act.put, List.setIfInBounds_toArray, List.set_cons_zero, List.set_cons_succ]
    refine rg_take 3 (v := ?rv7) rfl (by kernel_rfl) (by kernel_rfl) (by kernel_rfl) (fun _ _ _ h => h) (by rfl) hS (fun w2 hw2 => ?ry7) ?rr7
    case ry7 => ((try dsimp only at hw2); go_simp <;> with_reducible rfl)
    simp only [Act.put, List.setIfInBounds_toArray, List.set_cons_zero, List.set_cons_succ]
    refine rg_take 8 (v := ?rv8) rfl (by kernel_rfl) (by kernel_rfl) (by kernel_rfl) (fun _ _ _ h => h) (by rfl) hS (fun w2 hw2 => ?ry8) ?rr8
    case ry8 => ((try dsimp only at hw2); go_simp <;> with_reducible rfl)
    simp only [Act.put, List.setIfInBounds_toArray, List.set_cons_zero, List.set_cons_succ]
    refine rg_take 4 (v := ?rv9) rfl (by kernel_rfl) (by kernel_rfl) (by kernel_rfl) (fun _ _ _ h => h) (by rfl) hS (fun w2 hw2 => ?ry9) ?rr9
    case ry9 => ((try dsimp only at hw2); go_simp <;> with_reducible rfl)
    simp only [Act.put, List.setIfInBounds_toArray, List.set_cons_zero, List.set_cons_succ]
    refine rg_step 9 rfl (by kernel_rfl) (by rfl) (fun K hK => ?_)
    go_simp
    refine (KH.out _).mono ?_
    rintro ev w' ⟨rfl, rfl⟩
    refine hK.out _ _ hS ?_
    clear hK K
    try simp only [Act.put, List.setIfInBounds_toArray, List.set_cons_zero, List.set_cons_succ]
    refine rg_take 10 (v := ?rv10) rfl (by kernel_rfl) (by kernel_rfl) (by kernel_rfl) (fun _ _ _ h => h) (by rfl) hS (fun w2 hw2 => ?ry10) ?rr10
    case ry10 => ((try dsimp only at hw2); go_simp <;> with_reducible rfl)
    simp only [Act.put, List.setIfInBounds_toArray, List.set_cons_zero, List.set_cons_succ]
    refine rg_done (by kernel_rfl) ?_
    clear c0 c1
    have HS := Lib.hid hS
    clear hS
    have hpe : pushE (heldV N) ys id = if heldV N ≤ ys.length then 18 else 0 := by unfold pushE; rw [HV.out]; rfl
    obtain ⟨m, hm⟩ : ∃ m, m = heldV N := ⟨_, rfl⟩
    rw [← hm] at hpe ⊢
    by_cases hfull : m ≤ ys.length
    · rw [if_pos hfull] at hpe
      have HP := Lib.hid (And.intro hpe hm)
      clear hpe hm
      have hf2 : (m : Int) ≤ (ys.length : Int) := by omega
      go_wp2_with (first
        | (go_at_call 22; refine (KB.out _ _).mono ?_; rintro ev w2 ⟨rfl, b2⟩; have H2 := Lib.hid (And.intro (H1.out.1.later (HS.out.trans (b2.mono HS.out.size)) (Nat.le_refl _)) (HS.out.trans (b2.mono HS.out.size))); clear b2)
        | (refine wpList_store_flB rfl (.tmp 6) (.tmp 23) rfl 18 rfl rfl H2.out.1 ?_; intro w3 a3 m3 s3))
      have hB := below_of_new (H1.out.2.1.trans (H2.out.2.mono H1.out.2.1.size)) m3 (Nat.le_of_eq H1.out.2.2.2.symm)
      refine bodyPost_ret (results_flB Tryd.results17 _ rfl a3) rfl ⟨by rw [← HP.out.2, HP.out.1], ob, ?_⟩
      unfold pushL
      rw [if_neg (by rw [← HP.out.2, HP.out.1]; decide)]
      exact HH.out.1.flat hB
    · rw [if_neg hfull] at hpe
      have HP := Lib.hid (And.intro hpe hm)
      clear hpe hm
      have hf2 : ¬ ((m : Int) ≤ (ys.length : Int)) := by omega
      obtain ⟨A, c, _, q1, _, hs, _⟩ := (HH.out.1.later H1.out.2.1 (Nat.le_refl _)).open_
      have hle : e < w1.heap.size := lt_of_cell' q1
      have q2 := (HS.out.cell (p := ⟨e, 1, none⟩) hle).trans q1
      have HE := Lib.hid (hs.later HS.out (Nat.le_refl _))
      clear q1 hs hle
      go_wp2_with (first
        | (at_builtin; refine wpList_cat_en rfl (.const (.slice none 0 0)) (.tmp 28) rfl _ [] rfl (EO.nil _) A _ c ys rfl HE.out (by simp only [List.length_nil]; omega) ?_; intro v2 w2 o2 g2 f2; rw [List.nil_append] at o2; have H2 := Lib.hid (And.intro o2 (And.intro (below_none (Below.refl _ _) g2 (Nat.le_refl _)) f2)); clear o2 g2 f2)
        | (refine wpList_one17 rfl (.tmp 32) rfl ⟨id, t⟩ rfl ?_; intro w3 o3 b3 s3; have H3 := Lib.hid (And.intro o3 (And.intro b3 s3)); clear o3 b3 s3)
        | (at_builtin
           refine wpList_cat_en rfl (.tmp 29) (.tmp 33) rfl v2 ys rfl (H2.out.1.kept fun b hb => H3.out.2.1.block b (H2.out.1.lt hb)) _ 1 1 [⟨id, t⟩] rfl H3.out.1 (by omega) ?_
           intro v4 w4 o4 g4 f4
           have hv2 : ∀ q, v2.ownBlock = some q → w1.heap.size ≤ q := fun q hq => by
             rcases H2.out.2.2 with e2 | e2
             · rw [e2] at hq; cases hq
             · rw [e2] at hq; cases hq; exact HS.out.size
           have hb3 := HS.out.trans (H2.out.2.1.mono HS.out.size)
           have hb3 := hb3.trans (H3.out.2.1.mono hb3.size)
           have hb4 := hb3.grown g4 hb3.size hv2
           have hf4 : ∀ q, v4.ownBlock = some q → w1.heap.size ≤ q := fun q hq => by
             rcases f4 with e2 | e2
             · exact hv2 q (e2.symm.trans hq)
             · rw [e2] at hq; cases hq; exact hb3.size
           obtain ⟨A4, c4, rfl, _, _⟩ := EnS.of_own o4
           obtain ⟨n4, hn4⟩ : ∃ n, n = (ys ++ [(⟨id, t⟩ : En)]).length := ⟨_, rfl⟩
           rw [← hn4] at o4 hf4 ⊢
           obtain ⟨A5, c5, _, k1, k2, _⟩ := ((HH.out.1.later H1.out.2.1 (Nat.le_refl _)).later hb4 (Nat.le_refl _)).open_
           have a4 : FlB (w4.setCell ⟨e, 1, none⟩ (.slice A4 n4 c4)) k 0 := ((HH.out.1.stored H1.out.2.1 hb4 o4 hf4).2.2.1 k (by have := HH.out.2; have := H1.out.2.2.2; omega)).trans (H1.out.1.later hb4 (Nat.le_refl _))
           have H4 := Lib.hid (And.intro o4 (And.intro hb4 (And.intro hf4 a4)))
           clear o4 g4 f4 hv2 hb3 hb4 hf4 a4 hn4)
        | (refine wpList_store_flB rfl (.tmp 6) (.tmp 37) rfl 0 rfl rfl H4.out.2.2.2 ?_; intro w5 a5 m5 s5))
      refine bodyPost_ret (results_flB Tryd.results17 _ rfl a5) rfl ⟨by rw [← HP.out.2, HP.out.1], (Value.slice A4 n4 c4).ownBlock, ?_⟩
      unfold pushL
      rw [if_pos (by rw [← HP.out.2, HP.out.1])]
      exact HH.out.1.fin H1.out.2.1 H4.out.2.1 H4.out.1 H4.out.2.2.1 (Nat.le_of_eq H1.out.2.2.2.symm) (by have := H1.out.2.2.1; have := H1.out.2.2.2; omega) m5
  · rw [hi]
    have HV := Lib.hid hv
    have hpe : Hid (pushE (heldV N) ys id = 19) := by unfold pushE; rw [HV.out]; rfl
    clear hi hv
    have hk0 : (0 : Int) ≤ (i : Int) := by omega
    go_wp2_with (first
      | (go_at_call 22; refine (KB.out _ _).mono ?_; rintro ev w2 ⟨rfl, b2⟩; have H2 := Lib.hid (And.intro (H1.out.1.later b2 (Nat.le_refl _)) b2); clear b2)
      | (refine wpList_store_flB rfl (.tmp 6) (.tmp 11) rfl 19 rfl rfl H2.out.1 ?_; intro w3 a3 m3 s3))
    have hB := below_of_new (H1.out.2.1.trans (H2.out.2.mono H1.out.2.1.size)) m3 (Nat.le_of_eq H1.out.2.2.2.symm)
    refine bodyPost_ret (results_flB Tryd.results17 _ rfl a3) rfl ⟨by rw [hpe.out], ob, ?_⟩
    unfold pushL
    rw [if_neg (by rw [hpe.out]; decide)]
    exact HH.out.1.flat hB
-->>
--<< move
set_option maxHeartbeats 4000000 in
theorem move_E {w : World} {e : Nat} {ob : Option Nat} {N : Int} {ys : List En} (h : Ed w e ob N ys) (hu : uniq ys) (hbig : ys.length ≤ 100000) (id t : Int) : Calls Tryd.prog 10 #[.pointer (some ⟨e, 0, none⟩), .int .i64 id, .int .u64 t] w fun ev w' =>
    ev = .returned (.agg #[.int .i64 (hasC ys id), .int .i64 0, .bool false]) ∧ ∃ ob', Ed w' e ob' N (moveE ys id t) ∧ Mv e none w w' ∧ Fr ob ob' w.heap.size := by
  have KP := Lib.hid fun (w1 : World) (hb : Below w.heap.size w w1) => place_any (h.later hb (Nat.le_refl _)) (by omega) id
  have KB := Lib.hid fun (n : Int) (w1 : World) => help_bare n w1
  have HH := Lib.hid (And.intro h (And.intro h.lt hu))
  clear h hu
  obtain ⟨k, hk⟩ : ∃ k, k = w.heap.size := ⟨_, rfl⟩
  go_enter Tryd.func10, Tryd.ntmps10
  go_wp2_with (refine wpList_alloc_flB rfl rfl ?_; intro w1 a1 b1 s1)
  rw [← hk] at a1 ⊢
  have H1 := Lib.hid (And.intro a1 (And.intro b1 (And.intro s1 hk)))
  clear a1 b1 s1 hk
  refine (KP.out w1 H1.out.2.1).mono ?_
  rintro ev w' ⟨rfl, rfl⟩
  rcases idxv_cases ys id with ⟨hi, hv⟩ | ⟨i, x, hi, hx, hxi, hv⟩
  · rw [hi]
    have HV := Lib.hid hv
    have hpe : Hid (hasC ys id = 20) := by unfold hasC; rw [HV.out]; rfl
    clear hi hv
    go_wp2_with (first
      | (go_at_call 22; refine (KB.out _ _).mono ?_; rintro ev w2 ⟨rfl, b2⟩; have H2 := Lib.hid (And.intro (H1.out.1.later b2 (Nat.le_refl _)) b2); clear b2)
      | (refine wpList_store_flB rfl (.tmp 6) (.tmp 13) rfl 20 rfl rfl H2.out.1 ?_; intro w3 a3 m3 s3))
    have hB := below_of_new (H1.out.2.1.trans (H2.out.2.mono H1.out.2.1.size)) m3 (Nat.le_of_eq H1.out.2.2.2.symm)
    refine bodyPost_ret (results_flB Tryd.results10 _ rfl a3) rfl ⟨by rw [hpe.out], ob, ?_⟩
    rw [move_no HV.out]
    exact HH.out.1.flat hB
  · rw [hi]
    have HV := Lib.hid (And.intro hv (And.intro hx hxi))
    have hpe : Hid (hasC ys id = 0) := by unfold hasC; rw [HV.out.1]; rfl
    have hiy : i < ys.length := (List.getElem?_eq_some_iff.1 hx).1
    clear hi hv hx hxi
    have hk0 : ¬ ((i : Int) < 0) := by omega
    obtain ⟨A, c, _, q1, _, hs, _⟩ := (HH.out.1.later H1.out.2.1 (Nat.le_refl _)).open_
    obtain ⟨n, hn⟩ : ∃ n, n = ys.length := ⟨_, rfl⟩
    rw [← hn] at q1 hs hiy hbig
    have HE := Lib.hid (And.intro hs hn)
    have hin : (i : Int) < (n : Int) := by omega
    clear hs hn
    go_wp2_with (first
      | (at_builtin
         refine wpList_cat_en rfl (.const (.slice none 0 0)) (.tmp 18) rfl _ [] rfl (EO.nil _) A n c ys rfl HE.out.1 (by simp only [List.length_nil]; omega) ?_
         intro v4 w4 o4 g4 f4
         rw [List.nil_append] at o4
         have hb4 := below_none (Below.refl w1.heap.size w1) g4 (Nat.le_refl _)
         have hf4 : ∀ q, v4.ownBlock = some q → w1.heap.size ≤ q := fun q hq => by
           rcases f4 with e2 | e2
           · rw [e2] at hq; cases hq
           · rw [e2] at hq; cases hq; exact Nat.le_refl _
         obtain ⟨A4, c4, rfl, hs4, hA4⟩ := EnS.of_own o4
         obtain ⟨b4, rfl⟩ : ∃ b, A4 = some ⟨b, 0, none⟩ := by
           rcases hA4 with rfl | h
           · obtain ⟨_, _, e2, _⟩ := hs4.here i x HV.out.2.1
             cases e2
           · exact h
         rw [← HE.out.2] at o4 hf4 ⊢
         obtain ⟨A5, c5, _, k1, k2, _⟩ := ((HH.out.1.later H1.out.2.1 (Nat.le_refl _)).later hb4 (Nat.le_refl _)).open_
         have hst := HH.out.1.stored H1.out.2.1 hb4 o4 hf4
         have hne : b4 ≠ e := fun e2 => by have := hf4 b4 rfl; have := HH.out.2.1; have := H1.out.2.1.size; omega
         have o5 : EO (w4.setCell ⟨e, 1, none⟩ (.slice (some ⟨b4, 0, none⟩) n c4)) (.slice (some ⟨b4, 0, none⟩) n c4) ys := o4.kept fun b hb => hst.2.2.1 b (fun e2 => hne ((Option.some.inj hb).trans e2))
         obtain ⟨w5, hw5⟩ : ∃ w5, w5 = w4.setCell ⟨e, 1, none⟩ (.slice (some ⟨b4, 0, none⟩) n c4) := ⟨_, rfl⟩
         have HW5 := Lib.hid hw5.symm
         rw [← hw5] at o5
         have q5 : w5.cell? ⟨e, 1, none⟩ = some (.slice (some ⟨b4, 0, none⟩) n c4) := by
           rw [hw5]
           exact cell_of_row _ e 1 _ _ _ hst.2.2.2.2
         rw [← hw5] at hst
         have hkb : k ≠ b4 := fun e2 => by have := hf4 b4 rfl; have := H1.out.2.2.1; have := H1.out.2.2.2; omega
         have hke : k ≠ e := fun e2 => by have := HH.out.2.1; have := H1.out.2.2.2; omega
         have a5 : FlB (w5.setCell ⟨b4, i * 2 + 1, none⟩ (.int .u64 t)) k 0 := (Below.heap_setCell w5 ⟨b4, i * 2 + 1, none⟩ _ k hkb).trans ((hst.2.2.1 k hke).trans (H1.out.1.later hb4 (Nat.le_refl _)))
         have H4 := Lib.hid (And.intro hst.1 (And.intro hst.2.1 (And.intro (Nat.le_trans H1.out.2.1.size (hf4 b4 rfl)) (And.intro hkb (And.intro hke a5)))))
         have Q5 := Lib.hid q5
         have c5 := (EnS.of_own o5)
         obtain ⟨A6, c6, e6, hs6, _⟩ := c5
         cases e6
         obtain ⟨b6, o6, e6, r1, r2⟩ := hs6.here i x HV.out.2.1
         cases e6
         rw [Nat.zero_add] at r2
         have r3 := World.ownsRow.frozenAt o5 (i * 2 + 1)
         clear o4 g4 f4 hb4 hf4 hne o5 hst hs4 hw5 hkb hke a5 hs6 r1)
      | (rw [HW5.out])
      | (refine wpList_store_flB rfl (.tmp 6) (.tmp 30) rfl 0 rfl rfl H4.out.2.2.2.2.2 ?_; intro w7 a7 m7 s7))
    refine bodyPost_ret (results_flB Tryd.results10 _ rfl a7) rfl ⟨by rw [hpe.out], some b4, ?_⟩
    have hmv := moveE_idx t HH.out.2.2 HV.out.2.1
    rw [HV.out.2.2] at hmv
    rw [hmv, ← HV.out.2.2]
    exact H4.out.1.put Q5.out rfl H4.out.2.1 H4.out.2.2.1 (Nat.le_of_eq H1.out.2.2.2.symm) H4.out.2.2.2.1 H4.out.2.2.2.2.1 HV.out.2.1 m7
-->>
--<< cancel
set_option maxHeartbeats 4000000 in
theorem cancel_E {w : World} {e : Nat} {ob : Option Nat} {N : Int} {ys : List En} (h : Ed w e ob N ys) (hu : uniq ys) (hbig : ys.length ≤ 100000) (id : Int) : Calls Tryd.prog 12 #[.pointer (some ⟨e, 0, none⟩), .int .i64 id] w fun ev w' =>
    ev = .returned (.agg #[.int .i64 (hasC ys id), .int .i64 0, .bool false]) ∧ ∃ ob', Ed w' e ob' N (cancelE ys id) ∧ Mv e none w w' ∧ Fr ob ob' w.heap.size := by
  have KP := Lib.hid fun (w1 : World) (hb : Below w.heap.size w w1) => place_any (h.later hb (Nat.le_refl _)) (by omega) id
  have KB := Lib.hid fun (n : Int) (w1 : World) => help_bare n w1
  have HH := Lib.hid (And.intro h (And.intro h.lt hu))
  clear h hu
  obtain ⟨k, hk⟩ : ∃ k, k = w.heap.size := ⟨_, rfl⟩
  go_enter Tryd.func12, Tryd.ntmps12
  go_wp2_with (refine wpList_alloc_flB rfl rfl ?_; intro w1 a1 b1 s1)
  rw [← hk] at a1 ⊢
  have H1 := Lib.hid (And.intro a1 (And.intro b1 (And.intro s1 hk)))
  clear a1 b1 s1 hk
  refine (KP.out w1 H1.out.2.1).mono ?_
  rintro ev w' ⟨rfl, rfl⟩
  rcases idxv_cases ys id with ⟨hi, hv⟩ | ⟨i, x, hi, hx, hxi, hv⟩
  · rw [hi]
    have HV := Lib.hid hv
    have hpe : Hid (hasC ys id = 20) := by unfold hasC; rw [HV.out]; rfl
    clear hi hv
    go_wp2_with (first
      | (go_at_call 22; refine (KB.out _ _).mono ?_; rintro ev w2 ⟨rfl, b2⟩; have H2 := Lib.hid (And.intro (H1.out.1.later b2 (Nat.le_refl _)) b2); clear b2)
      | (refine wpList_store_flB rfl (.tmp 4) (.tmp 11) rfl 20 rfl rfl H2.out.1 ?_; intro w3 a3 m3 s3))
    have hB := below_of_new (H1.out.2.1.trans (H2.out.2.mono H1.out.2.1.size)) m3 (Nat.le_of_eq H1.out.2.2.2.symm)
    refine bodyPost_ret (results_flB Tryd.results12 _ rfl a3) rfl ⟨by rw [hpe.out], ob, ?_⟩
    rw [cancel_no HV.out]
    exact HH.out.1.flat hB
  · rw [hi]
    have HV := Lib.hid (And.intro hv (And.intro hx hxi))
    have hpe : Hid (hasC ys id = 0) := by unfold hasC; rw [HV.out.1]; rfl
    have hiy : i < ys.length := (List.getElem?_eq_some_iff.1 hx).1
    clear hi hv hx hxi
    have hk0 : ¬ ((i : Int) < 0) := by omega
    go_wp2_with fail
    have hS0 : Below w1.heap.size w1 w1.drew := below_of_drew (Below.refl _ _)
    have hS : True := trivial
    refine rg_begin (fun _ => True) 19 (by kernel_rfl) rfl ?_
    obtain ⟨W, hW⟩ : ∃ W, w1.drew = W := ⟨_, rfl⟩
    rw [hW] at hS0 ⊢
    clear hW
    have HS := Lib.hid hS0
    obtain ⟨A, c, _, q1, _, hs, _⟩ := ((HH.out.1.later H1.out.2.1 (Nat.le_refl _)).later hS0 (Nat.le_refl _)).open_
    obtain ⟨b, off, rfl, _⟩ := hs.here i x HV.out.2.1
    obtain ⟨n, hn⟩ : ∃ n, n = ys.length := ⟨_, rfl⟩
    rw [← hn] at q1 hs hiy hbig
    have hle : e < W.heap.size := lt_of_cell' q1
    have hnc := hs.cap
    have hcm := hs.max
    unfold maxLen at hcm
    have HE := Lib.hid (And.intro hs hn)
    have hin : i < n := hiy
    have hin2 : (i : Int) < (n : Int) := by omega
    clear hs hn hS0 hiy
    have hic : i ≤ c := by omega
    have hw : IntKind.i64.wrap ((i : Int) + 1) = (i : Int) + 1 := by
      rw [IntKind.wrap_i64]
      omega
    have hw3 : (i : Int) + 1 ≤ (n : Int) := by omega
    have hw4 : (0 : Int) ≤ (i : Int) + 1 := by omega
    have hw5 : ((i : Int) + 1).toNat = i + 1 := by omega
    refine rg_take 0 (v := ?rv11) rfl (by kernel_rfl) (by kernel_rfl) (by kernel_rfl) (fun _ _ _ h => h) (by rfl) hS (fun w2 hw2 => ?ry11) ?rr11
    case ry11 => ((try dsimp only at hw2); go_simp <;> with_reducible rfl)
    simp only [Act.put, List.setIfInBounds_toArray, List.set_cons_zero, List.set_cons_succ]
    refine rg_take 1 (v := ?rv12) rfl (by kernel_rfl) (by kernel_rfl) (by kernel_rfl) (fun _ _ _ h => h) (by rfl) hS (fun w2 hw2 => ?ry12) ?rr12
    case ry12 => ((try dsimp only at hw2); go_simp <;> with_reducible rfl)
    simp only [Act.put, List.setIfInBounds_toArray, List.set_cons_zero, List.set_cons_succ]
    refine rg_take 2 (v := ?rv13) rfl (by kernel_rfl) (by kernel_rfl) (by kernel_rfl) (fun _ _ _ h => h) (by rfl) hS (fun w2 hw2 => ?ry13) ?rr13
    case ry13 => ((try dsimp only at hw2); go_simp <;> with_reducible rfl)
    simp only [Act.put, List.setIfInBounds_toArray, List.set_cons_zero, List.set_cons_succ]
    refine rg_take 3 (v := ?rv14) rfl (by kernel_rfl) (by kernel_rfl) (by kernel_rfl) (fun _ _ _ h => h) (by rfl) hS (fun w2 hw2 => ?ry14) ?rr14
    case ry14 => ((try dsimp only at hw2); go_simp <;> with_reducible rfl)
    simp only [Act.put, List.setIfInBounds_toArray, List.set_cons_zero, List.set_cons_succ]
    refine rg_take 5 (v := ?rv15) rfl (by kernel_rfl) (by kernel_rfl) (by kernel_rfl) (fun _ _ _ h => h) (by rfl) hS (fun w2 hw2 => ?ry15) ?rr15
    case ry15 => ((try dsimp only at hw2); go_simp <;> with_reducible rfl)
    simp only [Act.put, List.setIfInBounds_toArray, List.set_cons_zero, List.set_cons_succ]
    refine rg_take 8 (v := ?rv16) rfl (by kernel_rfl) (by kernel_rfl) (by kernel_rfl) (fun _ _ _ h => h) (by rfl) hS (fun w2 hw2 => ?ry16) ?rr16
    case ry16 => ((try dsimp only at hw2); go_simp <;> with_reducible rfl)
    simp only [Act.put, List.setIfInBounds_toArray, List.set_cons_zero, List.set_cons_succ]
    refine rg_take 9 (v := ?rv17) rfl (by kernel_rfl) (by kernel_rfl) (by kernel_rfl) (fun _ _ _ h => h) (by rfl) hS (fun w2 hw2 => ?ry17) ?rr17
    case ry17 => ((try dsimp only at hw2); go_simp <;> with_reducible rfl)
    simp only [Act.put, List.setIfInBounds_toArray, List.set_cons_zero, List.set_cons_succ]
    refine rg_take 10 (v := ?rv18) rfl (by kernel_rfl) (by kernel_rfl) (by kernel_rfl) (fun _ _ _ h => h) (by rfl) hS (fun w2 hw2 => ?ry18) ?rr18
    case ry18 => ((try dsimp only at hw2); go_simp <;> with_reducible rfl)
    simp only [Act.put, List.setIfInBounds_toArray, List.set_cons_zero, List.set_cons_succ]
    refine rg_take 12 (v := ?rv19) rfl (by kernel_rfl) (by kernel_rfl) (by kernel_rfl) (fun _ _ _ h => h) (by rfl) hS (fun w2 hw2 => ?ry19) ?rr19
    case ry19 => ((try dsimp only at hw2); go_simp <;> with_reducible rfl)
    simp only [Act.put, List.setIfInBounds_toArray, List.set_cons_zero, List.set_cons_succ]
    refine rg_take 13 (v := ?rv20) rfl (by kernel_rfl) (by kernel_rfl) (by kernel_rfl) (fun _ _ _ h => h) (by rfl) hS (fun w2 hw2 => ?ry20) ?rr20
    case ry20 => ((try dsimp only at hw2); go_simp <;> with_reducible rfl)
    simp only [Act.put, List.setIfInBounds_toArray, List.set_cons_zero, List.set_cons_succ]
    refine rg_any [4, 11] (by kernel_rfl) (by simp) ?_
    refine rg_or 4 rfl (by rfl) (fun K hK => ?_) (rg_or 11 rfl (by rfl) (fun K hK => ?_) AllReadyH.nil)
    · go_simp
      refine hK.out _ _ hS ?_
      clear hK K
      try simp only [Act.put, List.setIfInBounds_toArray, List.set_cons_zero, List.set_cons_succ]
      refine rg_take 6 (v := ?rv21) rfl (by kernel_rfl) (by kernel_rfl) (by kernel_rfl) (fun _ _ _ h => h) (by rfl) hS (fun w2 hw2 => ?ry21) ?rr21
      case ry21 => ((try dsimp only at hw2); go_simp <;> with_reducible rfl)
      simp only [Act.put, List.setIfInBounds_toArray, List.set_cons_zero, List.set_cons_succ]
      refine rg_any [7, 11] (by kernel_rfl) (by simp) ?_
      refine rg_or 7 rfl (by rfl) (fun K hK => ?_) (rg_or 11 rfl (by rfl) (fun K hK => ?_) AllReadyH.nil)
      · skip
        refine wp_cat_en (.const (.slice none 0 0)) (.tmp 18) rfl _ [] rfl (EO.nil _) _ i c (ys.take i) rfl (HE.out.1.first (Nat.le_of_lt hin)) (by simp only [List.length_nil]; omega) ?_
        intro v2 w2 o2 g2 f2
        rw [List.nil_append] at o2
        have b2 := below_none (Below.refl W.heap.size W) g2 (Nat.le_refl _)
        have q2 := (b2.cell (p := ⟨e, 1, none⟩) hle).trans q1
        have H2 := Lib.hid (And.intro o2 (And.intro b2 f2))
        clear o2 g2 f2 b2
        refine hK.out _ _ hS ?_
        clear hK K
        try simp only [Act.put, List.setIfInBounds_toArray, List.set_cons_zero, List.set_cons_succ]
        refine rg_step 11 rfl (by kernel_rfl) (by rfl) (fun K hK => ?_)
        go_simp
        refine hK.out _ _ hS ?_
        clear hK K
        try simp only [Act.put, List.setIfInBounds_toArray, List.set_cons_zero, List.set_cons_succ]
        refine rg_take 14 (v := ?rv22) rfl (by kernel_rfl) (by kernel_rfl) (by kernel_rfl) (fun _ _ _ h => h) (by rfl) hS (fun w2 hw2 => ?ry22) ?rr22
        case ry22 => ((try dsimp only at hw2); go_simp <;> with_reducible rfl)
        simp only [Act.put, List.setIfInBounds_toArray, List.set_cons_zero, List.set_cons_succ]
        refine rg_step 15 rfl (by kernel_rfl) (by rfl) (fun K hK => ?_)
        refine wp_cat_en (.tmp 19) (.tmp 26) rfl v2 (ys.take i) rfl H2.out.1 _ _ _ (ys.drop (i + 1)) rfl ((HE.out.1.cutAt (i := i + 1) (by omega)).later H2.out.2.1 (Nat.le_refl _)) (by rw [List.length_take]; omega) ?_
        intro v4 w4 o4 g4 f4
        have hv2 : ∀ q, v2.ownBlock = some q → w1.heap.size ≤ q := fun q hq => by
          rcases H2.out.2.2 with e2 | e2
          · rw [e2] at hq; cases hq
          · rw [e2] at hq; cases hq; exact HS.out.size
        have hb3 := HS.out.trans (H2.out.2.1.mono HS.out.size)
        have hb4 := hb3.grown g4 hb3.size hv2
        have hf4 : ∀ q, v4.ownBlock = some q → w1.heap.size ≤ q := fun q hq => by
          rcases f4 with e2 | e2
          · exact hv2 q (e2.symm.trans hq)
          · rw [e2] at hq; cases hq; exact hb3.size
        obtain ⟨A4, c4, rfl, _, _⟩ := EnS.of_own o4
        obtain ⟨n4, hn4⟩ : ∃ m, m = (ys.take i ++ ys.drop (i + 1)).length := ⟨_, rfl⟩
        rw [← hn4] at o4 hf4 ⊢
        obtain ⟨A5, c5, _, k1, k2, _⟩ := ((HH.out.1.later H1.out.2.1 (Nat.le_refl _)).later hb4 (Nat.le_refl _)).open_
        have a4 : FlB (w4.setCell ⟨e, 1, none⟩ (.slice A4 n4 c4)) k 0 := ((HH.out.1.stored H1.out.2.1 hb4 o4 hf4).2.2.1 k (by have := HH.out.2.1; have := H1.out.2.2.2; omega)).trans (H1.out.1.later hb4 (Nat.le_refl _))
        have H4 := Lib.hid (And.intro o4 (And.intro hb4 (And.intro hf4 a4)))
        clear o4 g4 f4 hv2 hb3 hb4 hf4 a4 hn4
        refine hK.out _ _ hS ?_
        clear hK K
        try simp only [Act.put, List.setIfInBounds_toArray, List.set_cons_zero, List.set_cons_succ]
        refine rg_take 16 (v := ?rv23) rfl (by kernel_rfl) (by kernel_rfl) (by kernel_rfl) (fun _ _ _ h => h) (by rfl) hS (fun w2 hw2 => ?ry23) ?rr23
        case ry23 => ((try dsimp only at hw2); go_simp <;> with_reducible rfl)
        simp only [Act.put, List.setIfInBounds_toArray, List.set_cons_zero, List.set_cons_succ]
        refine rg_take 17 (v := ?rv24) rfl (by kernel_rfl) (by kernel_rfl) (by kernel_rfl) (fun _ _ _ h => h) (by rfl) hS (fun w2 hw2 => ?ry24) ?rr24
        case ry24 => ((try dsimp only at hw2); go_simp <;> with_reducible rfl)
        simp only [Act.put, List.setIfInBounds_toArray, List.set_cons_zero, List.set_cons_succ]
        refine rg_step 18 rfl (by kernel_rfl) (by rfl) (fun K hK => ?_)
        go_simp
        refine hK.out _ _ hS ?_
        clear hK K
        try simp only [Act.put, List.setIfInBounds_toArray, List.set_cons_zero, List.set_cons_succ]
        refine rg_done (by kernel_rfl) ?_
        go_wp2_with (first
          | (refine wpList_store_flB rfl (.tmp 4) (.tmp 30) rfl 0 rfl rfl H4.out.2.2.2 ?_; intro w5 a5 m5 s5))
        all_goals (
          refine bodyPost_ret (results_flB Tryd.results12 _ rfl a5) rfl ⟨by rw [hpe.out], (Value.slice A4 n4 c4).ownBlock, ?_⟩
          have hmv := cancelE_idx HH.out.2.2 HV.out.2.1
          rw [HV.out.2.2] at hmv
          rw [hmv]
          exact HH.out.1.fin H1.out.2.1 H4.out.2.1 H4.out.1 H4.out.2.2.1 (Nat.le_of_eq H1.out.2.2.2.symm) (by have := H1.out.2.2.1; have := H1.out.2.2.2; omega) m5)
      · go_simp
        refine hK.out _ _ hS ?_
        clear hK K
        try simp only [Act.put, List.setIfInBounds_toArray, List.set_cons_zero, List.set_cons_succ]
        refine rg_take 14 (v := ?rv25) rfl (by kernel_rfl) (by kernel_rfl) (by kernel_rfl) (fun _ _ _ h => h) (by rfl) hS (fun w2 hw2 => ?ry25) ?rr25
        case ry25 => ((try dsimp only at hw2); go_simp <;> with_reducible rfl)
        simp only [Act.put, List.setIfInBounds_toArray, List.set_cons_zero, List.set_cons_succ]
        refine rg_step 7 rfl (by kernel_rfl) (by rfl) (fun K hK => ?_)
        refine wp_cat_en (.const (.slice none 0 0)) (.tmp 18) rfl _ [] rfl (EO.nil _) _ i c (ys.take i) rfl (HE.out.1.first (Nat.le_of_lt hin)) (by simp only [List.length_nil]; omega) ?_
        intro v2 w2 o2 g2 f2
        rw [List.nil_append] at o2
        have b2 := below_none (Below.refl W.heap.size W) g2 (Nat.le_refl _)
        have q2 := (b2.cell (p := ⟨e, 1, none⟩) hle).trans q1
        have H2 := Lib.hid (And.intro o2 (And.intro b2 f2))
        clear o2 g2 f2 b2
        refine hK.out _ _ hS ?_
        clear hK K
        try simp only [Act.put, List.setIfInBounds_toArray, List.set_cons_zero, List.set_cons_succ]
        refine rg_step 15 rfl (by kernel_rfl) (by rfl) (fun K hK => ?_)
        refine wp_cat_en (.tmp 19) (.tmp 26) rfl v2 (ys.take i) rfl H2.out.1 _ _ _ (ys.drop (i + 1)) rfl ((HE.out.1.cutAt (i := i + 1) (by omega)).later H2.out.2.1 (Nat.le_refl _)) (by rw [List.length_take]; omega) ?_
        intro v4 w4 o4 g4 f4
        have hv2 : ∀ q, v2.ownBlock = some q → w1.heap.size ≤ q := fun q hq => by
          rcases H2.out.2.2 with e2 | e2
          · rw [e2] at hq; cases hq
          · rw [e2] at hq; cases hq; exact HS.out.size
        have hb3 := HS.out.trans (H2.out.2.1.mono HS.out.size)
        have hb4 := hb3.grown g4 hb3.size hv2
        have hf4 : ∀ q, v4.ownBlock = some q → w1.heap.size ≤ q := fun q hq => by
          rcases f4 with e2 | e2
          · exact hv2 q (e2.symm.trans hq)
          · rw [e2] at hq; cases hq; exact hb3.size
        obtain ⟨A4, c4, rfl, _, _⟩ := EnS.of_own o4
        obtain ⟨n4, hn4⟩ : ∃ m, m = (ys.take i ++ ys.drop (i + 1)).length := ⟨_, rfl⟩
        rw [← hn4] at o4 hf4 ⊢
        obtain ⟨A5, c5, _, k1, k2, _⟩ := ((HH.out.1.later H1.out.2.1 (Nat.le_refl _)).later hb4 (Nat.le_refl _)).open_
        have a4 : FlB (w4.setCell ⟨e, 1, none⟩ (.slice A4 n4 c4)) k 0 := ((HH.out.1.stored H1.out.2.1 hb4 o4 hf4).2.2.1 k (by have := HH.out.2.1; have := H1.out.2.2.2; omega)).trans (H1.out.1.later hb4 (Nat.le_refl _))
        have H4 := Lib.hid (And.intro o4 (And.intro hb4 (And.intro hf4 a4)))
        clear o4 g4 f4 hv2 hb3 hb4 hf4 a4 hn4
        refine hK.out _ _ hS ?_
        clear hK K
        try simp only [Act.put, List.setIfInBounds_toArray, List.set_cons_zero, List.set_cons_succ]
        refine rg_take 16 (v := ?rv26) rfl (by kernel_rfl) (by kernel_rfl) (by kernel_rfl) (fun _ _ _ h => h) (by rfl) hS (fun w2 hw2 => ?ry26) ?rr26
        case ry26 => ((try dsimp only at hw2); go_simp <;> with_reducible rfl)
        simp only [Act.put, List.setIfInBounds_toArray, List.set_cons_zero, List.set_cons_succ]
        refine rg_take 17 (v := ?rv27) rfl (by kernel_rfl) (by kernel_rfl) (by kernel_rfl) (fun _ _ _ h => h) (by rfl) hS (fun w2 hw2 => ?ry27) ?rr27
        case ry27 => ((try dsimp only at hw2); go_simp <;> with_reducible rfl)
        simp only [Act.put, List.setIfInBounds_toArray, List.set_cons_zero, List.set_cons_succ]
        refine rg_step 18 rfl (by kernel_rfl) (by rfl) (fun K hK => ?_)
        go_simp
        refine hK.out _ _ hS ?_
        clear hK K
        try simp only [Act.put, List.setIfInBounds_toArray, List.set_cons_zero, List.set_cons_succ]
        refine rg_done (by kernel_rfl) ?_
        go_wp2_with (first
          | (refine wpList_store_flB rfl (.tmp 4) (.tmp 30) rfl 0 rfl rfl H4.out.2.2.2 ?_; intro w5 a5 m5 s5))
        all_goals (
          refine bodyPost_ret (results_flB Tryd.results12 _ rfl a5) rfl ⟨by rw [hpe.out], (Value.slice A4 n4 c4).ownBlock, ?_⟩
          have hmv := cancelE_idx HH.out.2.2 HV.out.2.1
          rw [HV.out.2.2] at hmv
          rw [hmv]
          exact HH.out.1.fin H1.out.2.1 H4.out.2.1 H4.out.1 H4.out.2.2.1 (Nat.le_of_eq H1.out.2.2.2.symm) (by have := H1.out.2.2.1; have := H1.out.2.2.2; omega) m5)
    · go_simp
      refine hK.out _ _ hS ?_
      clear hK K
      try simp only [Act.put, List.setIfInBounds_toArray, List.set_cons_zero, List.set_cons_succ]
      refine rg_take 14 (v := ?rv28) rfl (by kernel_rfl) (by kernel_rfl) (by kernel_rfl) (fun _ _ _ h => h) (by rfl) hS (fun w2 hw2 => ?ry28) ?rr28
      case ry28 => ((try dsimp only at hw2); go_simp <;> with_reducible rfl)
      simp only [Act.put, List.setIfInBounds_toArray, List.set_cons_zero, List.set_cons_succ]
      refine rg_step 4 rfl (by kernel_rfl) (by rfl) (fun K hK => ?_)
      go_simp
      refine hK.out _ _ hS ?_
      clear hK K
      try simp only [Act.put, List.setIfInBounds_toArray, List.set_cons_zero, List.set_cons_succ]
      refine rg_take 6 (v := ?rv29) rfl (by kernel_rfl) (by kernel_rfl) (by kernel_rfl) (fun _ _ _ h => h) (by rfl) hS (fun w2 hw2 => ?ry29) ?rr29
      case ry29 => ((try dsimp only at hw2); go_simp <;> with_reducible rfl)
      simp only [Act.put, List.setIfInBounds_toArray, List.set_cons_zero, List.set_cons_succ]
      refine rg_step 7 rfl (by kernel_rfl) (by rfl) (fun K hK => ?_)
      refine wp_cat_en (.const (.slice none 0 0)) (.tmp 18) rfl _ [] rfl (EO.nil _) _ i c (ys.take i) rfl (HE.out.1.first (Nat.le_of_lt hin)) (by simp only [List.length_nil]; omega) ?_
      intro v2 w2 o2 g2 f2
      rw [List.nil_append] at o2
      have b2 := below_none (Below.refl W.heap.size W) g2 (Nat.le_refl _)
      have q2 := (b2.cell (p := ⟨e, 1, none⟩) hle).trans q1
      have H2 := Lib.hid (And.intro o2 (And.intro b2 f2))
      clear o2 g2 f2 b2
      refine hK.out _ _ hS ?_
      clear hK K
      try simp only [Act.put, List.setIfInBounds_toArray, List.set_cons_zero, List.set_cons_succ]
      refine rg_step 15 rfl (by kernel_rfl) (by rfl) (fun K hK => ?_)
      refine wp_cat_en (.tmp 19) (.tmp 26) rfl v2 (ys.take i) rfl H2.out.1 _ _ _ (ys.drop (i + 1)) rfl ((HE.out.1.cutAt (i := i + 1) (by omega)).later H2.out.2.1 (Nat.le_refl _)) (by rw [List.length_take]; omega) ?_
      intro v4 w4 o4 g4 f4
      have hv2 : ∀ q, v2.ownBlock = some q → w1.heap.size ≤ q := fun q hq => by
        rcases H2.out.2.2 with e2 | e2
        · rw [e2] at hq; cases hq
        · rw [e2] at hq; cases hq; exact HS.out.size
      have hb3 := HS.out.trans (H2.out.2.1.mono HS.out.size)
      have hb4 := hb3.grown g4 hb3.size hv2
      have hf4 : ∀ q, v4.ownBlock = some q → w1.heap.size ≤ q := fun q hq => by
        rcases f4 with e2 | e2
        · exact hv2 q (e2.symm.trans hq)
        · rw [e2] at hq; cases hq; exact hb3.size
      obtain ⟨A4, c4, rfl, _, _⟩ := EnS.of_own o4
      obtain ⟨n4, hn4⟩ : ∃ m, m = (ys.take i ++ ys.drop (i + 1)).length := ⟨_, rfl⟩
      rw [← hn4] at o4 hf4 ⊢
      obtain ⟨A5, c5, _, k1, k2, _⟩ := ((HH.out.1.later H1.out.2.1 (Nat.le_refl _)).later hb4 (Nat.le_refl _)).open_
      have a4 : FlB (w4.setCell ⟨e, 1, none⟩ (.slice A4 n4 c4)) k 0 := ((HH.out.1.stored H1.out.2.1 hb4 o4 hf4).2.2.1 k (by have := HH.out.2.1; have := H1.out.2.2.2; omega)).trans (H1.out.1.later hb4 (Nat.le_refl _))
      have H4 := Lib.hid (And.intro o4 (And.intro hb4 (And.intro hf4 a4)))
      clear o4 g4 f4 hv2 hb3 hb4 hf4 a4 hn4
      refine hK.out _ _ hS ?_
      clear hK K
      try simp only [Act.put, List.setIfInBounds_toArray, List.set_cons_zero, List.set_cons_succ]
      refine rg_take 16 (v := ?rv30) rfl (by kernel_rfl) (by kernel_rfl) (by kernel_rfl) (fun _ _ _ h => h) (by rfl) hS (fun w2 hw2 => ?ry30) ?rr30
      case ry30 => ((try dsimp only at hw2); go_simp <;> with_reducible rfl)
      simp only [Act.put, List.setIfInBounds_toArray, List.set_cons_zero, List.set_cons_succ]
      refine rg_take 17 (v := ?rv31) rfl (by kernel_rfl) (by kernel_rfl) (by kernel_rfl) (fun _ _ _ h => h) (by rfl) hS (fun w2 hw2 => ?ry31) ?rr31
      case ry31 => ((try dsimp only at hw2); go_simp <;> with_reducible rfl)
      simp only [Act.put, List.setIfInBounds_toArray, List.set_cons_zero, List.set_cons_succ]
      refine rg_step 18 rfl (by kernel_rfl) (by rfl) (fun K hK => ?_)
      go_simp
      refine hK.out _ _ hS ?_
      clear hK K
      try simp only [Act.put, List.setIfInBounds_toArray, List.set_cons_zero, List.set_cons_succ]
      refine rg_done (by kernel_rfl) ?_
      go_wp2_with (first
        | (refine wpList_store_flB rfl (.tmp 4) (.tmp 30) rfl 0 rfl rfl H4.out.2.2.2 ?_; intro w5 a5 m5 s5))
      all_goals (
        refine bodyPost_ret (results_flB Tryd.results12 _ rfl a5) rfl ⟨by rw [hpe.out], (Value.slice A4 n4 c4).ownBlock, ?_⟩
        have hmv := cancelE_idx HH.out.2.2 HV.out.2.1
        rw [HV.out.2.2] at hmv
        rw [hmv]
        exact HH.out.1.fin H1.out.2.1 H4.out.2.1 H4.out.1 H4.out.2.2.1 (Nat.le_of_eq H1.out.2.2.2.symm) (by have := H1.out.2.2.1; have := H1.out.2.2.2; omega) m5)
-->>
end Go.Proofs.YtdpmjbhkmfjpfaaDoor
