/-
  stockadelaw07.Ip6Back answers true, whatever is handed in. Conditions: those of the slices.
-/
import Derived.Test.YtceigepclemdmaaKinds7
import Derived.Test.YtceigepclemdmaaPlayAddr
import Derived.Test.YtceigepclemdmaaEqH
import Derived.Test.YtceigepclemdmaaSame
import Derived.Test.YtceigepclemdmaaReg
import Derived.Deep.DeepCutAuto
import Derived.IntWalk
namespace Go.Proofs.Ytceigepclemdmaa
open Go.RowKit
set_option maxRecDepth 100000

theorem wp_load_ad {o : Oper} {a : Act} {w : World} {K : Act → World → Prop} {Q : Exit → Act → World → Prop} (x : Operand) (ho : o.op = .load 24 x) {g : Nat} {v6 : Bool} {bs : List UInt8} (hx : a.eval x = .pointer (some ⟨g, 0, none⟩)) (hA : AdBox w g v6 bs)
    (h : K (a.put o.dst (.agg (adv v6 bs))) w) : o.wp Try.prog a w K Q :=
  wp_load_mid (P := Try.prog) 24 x ho g 0 hx (adv v6 bs).toList _ hA.range Try.underlying24 rfl (by simpa using ad_size v6 hA.2) (by simpa using h)
theorem wp_store_adF {o : Oper} {a : Act} {w : World} {K : Act → World → Prop} {Q : Exit → Act → World → Prop} (x y : Operand) (ho : o.op = .store 24 x y) {g : Nat} {v6 v0 : Bool} {bs b0 : List UInt8}
    (hx : a.eval x = .pointer (some ⟨g, 0, none⟩)) (hy : a.eval y = .agg (adv v6 bs)) (hl : bs.length = 16) (hA : AdBox w g v0 b0)
    (h : ∀ w', AdBox w' g v6 bs → (∀ k, k ≠ g → w'.heap[k]? = w.heap[k]?) → (∀ B w0, B ≤ g → Below B w0 w → Below B w0 w') → K (a.put o.dst undef) w') : o.wp Try.prog a w K Q :=
  wp_store_row 24 x y ho g (adv v6 bs) hx hy 24 _ hA.1 (ad_size v6 hl) (by rw [adv_size v0 hA.2, adv_size v6 hl]) (adv_one v6 bs)
    (h _ ⟨setRow_heap w g _ _ _ _ hA.1, hl⟩ (fun k hk => setRow_other w g k _ hk) (fun _ _ hB hb => below_setRow hb hB _))
theorem wpList_load_hd_w {ops : Array Oper} {rest : List Oper} {o : Oper} {a : Act} {w : World} {Q : Exit → Act → World → Prop} (hw : Region.wanted o (yielded ops a.tmps) = true) (x : Operand) (ho : o.op = .load 36 x) {g : Nat} {h' : Hd}
    (hx : a.eval x = .pointer (some ⟨g, 0, none⟩)) (hA : HdBox w g h') (h : wpList Try.prog ops Q rest (a.put o.dst (.agg (hdv h'))) w) : wpList Try.prog ops Q (o :: rest) a w := by
  have h1 := wp_load_mid (P := Try.prog) (op := o) (a := a) (w := w) (K := wpList Try.prog ops Q rest) (Q := Q) 36 x ho g 0 hx (hdv h').toList _ hA.range Try.underlying36 rfl (by rw [Array.length_toList]; exact hd_size hA.2) (by simpa using h)
  unfold wpList
  rw [if_pos hw]
  exact .inl h1
theorem wpList_build_hd_w {ops : Array Oper} {rest : List Oper} {o : Oper} {a : Act} {w : World} {Q : Exit → Act → World → Prop} (hw : Region.wanted o (yielded ops a.tmps) = true) (x0 x1 x2 x3 x4 : Operand) (ho : o.op = .build 36 #[(0, x0), (1, x1), (2, x2), (3, x3), (4, x4)]) (v6 : Bool) {s d : List UInt8} {p f t : Int} (h0 : a.eval x0 = .agg (adv v6 s)) (h1 : a.eval x1 = .agg (adv v6 d)) (h2 : a.eval x2 = .int .i64 p) (h3 : a.eval x3 = .int .i64 f) (h4 : a.eval x4 = .int .i64 t) (hs : s.length = 16) (hd : d.length = 16)
    (h : wpList Try.prog ops Q rest (a.put o.dst (.agg (hdv ⟨v6, s, d, p, f, t⟩))) w) : wpList Try.prog ops Q (o :: rest) a w := by
  have h9 : Oper.wp Try.prog o a w (wpList Try.prog ops Q rest) Q := by
    have hrun := run_build_hd v6 hs hd p f t w
    unfold Oper.wp execOp
    simp only [ho, Sem.run_bind, Sem.run_pure, Result.andThen_ok, List.map_toArray, List.map_cons, List.map_nil, h0, h1, h2, h3, h4, hrun]
    exact h
  unfold wpList
  rw [if_pos hw]
  exact .inl h9
theorem built6_rest {a b : List UInt8} (ha : a.length = 16) (hb : b.length = 16) (p : Int) (ks : List Int) {n : Nat} {l : List UInt8} (hl : l.length = n) : ((built6 a b p ks n l).drop (40 + 8 * ks.length)).take n = l := by
  unfold built6
  rw [List.drop_left' (by rw [List.length_append, first40_length ha hb, headsv_length]; simp), List.take_of_length_le (by rw [hl]; exact Nat.le_refl _)]

set_option maxHeartbeats 16000000 in
theorem ip6Back {A B M : Option Addr} {n c m d k e : Nat} {l mo : List UInt8} {zs : List Int} {w : World} (sv dv : Bool) {sb db : List UInt8} (hsb : sb.length = 16) (hdb : db.length = 16) (proto : Int) (hz : Gs w B m d (zv zs)) (hb : Bs w A n c l) (hmo : Bs w M k e mo) :
    Calls Try.prog 3 #[.agg (adv sv sb), .agg (adv dv db), .int .i64 proto, .slice B m d, .slice A n c, .slice M k e] w fun e w' => e = .returned (.bool true) ∧ Below w.heap.size w w' := by
  have hm := Nat.le_trans hb.cap hb.max
  have hm2 := Nat.le_trans hz.cap hz.max
  have hm3 := Nat.le_trans hmo.cap hmo.max
  unfold maxLen at hm hm2 hm3
  have HB := Lib.hid (And.intro hb (And.intro hz hmo))
  clear hb hz hmo
  have A1 := AdBox.new w sv hsb
  have B1 : Below w.heap.size w (w.alloc (.cells (adv sv sb) 24)) := (Below.refl _ _).alloc (Nat.le_refl _) _
  have A2 := AdBox.new (w.alloc (.cells (adv sv sb) 24)) dv hdb
  rw [World.size_alloc] at A2
  have B2 : Below (w.heap.size + 1) (w.alloc (.cells (adv sv sb) 24)) ((w.alloc (.cells (adv sv sb) 24)).alloc (.cells (adv dv db) 24)) := (Below.refl _ _).alloc (by simp) _
  have hA := And.intro (A1.later B2 (by simp)) (And.intro A2 (B1.trans (B2.mono (by omega))))
  obtain ⟨W, hW⟩ : ∃ W, (w.alloc (.cells (adv sv sb) 24)).alloc (.cells (adv dv db) 24) = W := ⟨_, rfl⟩
  rw [hW] at hA
  have HA := Lib.hid hA
  have HW := Lib.hid hW
  clear A1 B1 A2 B2 hA hW
  by_cases hbig : 1000 < n
  · have hq : (1000 : Int) < (n : Int) := by omega
    have hqd : decide ((1000 : Int) < (n : Int)) = true := decide_eq_true hq
    go_enter Try.func3, Try.ntmps3
    go_wp2_with fail
    rw [HW.out]
    refine (awake07 _).mono ?_
    rintro e w1 ⟨rfl, b1⟩
    have H1 := Lib.hid (HA.out.2.2.trans (b1.mono HA.out.2.2.size))
    clear b1
    go_wp2_with fail
    go_ret
    exact ⟨rfl, H1.out⟩
  have hb1d : decide ((1000 : Int) < (n : Int)) = false := decide_eq_false (by omega)
  by_cases hbig2 : 100 < k
  · have hq : (100 : Int) < (k : Int) := by omega
    have hqd : decide ((100 : Int) < (k : Int)) = true := decide_eq_true hq
    go_enter Try.func3, Try.ntmps3
    go_wp2_with fail
    rw [HW.out]
    refine (awake07 _).mono ?_
    rintro e w1 ⟨rfl, b1⟩
    have H1 := Lib.hid (HA.out.2.2.trans (b1.mono HA.out.2.2.size))
    clear b1
    go_wp2_with fail
    go_ret
    exact ⟨rfl, H1.out⟩
  have hb2d : decide ((100 : Int) < (k : Int)) = false := decide_eq_false (by omega)
  have P1 : Hid (∀ w, Calls Try.prog 5 #[.agg (adv sv sb), .bool true] w fun e w' => e = .returned (.agg (adv true sb)) ∧ Below w.heap.size w w') := fun w => play_addr sv true sb hsb w
  have P2 : Hid (∀ w, Calls Try.prog 5 #[.agg (adv dv db), .bool true] w fun e w' => e = .returned (.agg (adv true db)) ∧ Below w.heap.size w w') := fun w => play_addr dv true db hdb w
  have MQ := Lib.hid (num_mod7 proto 256 (by omega) (by omega))
  have hne : w.heap.size ≠ w.heap.size + 1 := by omega
  go_enter Try.func3, Try.ntmps3
  go_upto_region 3 with fail
  rw [HW.out]
  go_cut [2] (fun s2 wx => ∃ q : Int, (0 ≤ q ∧ q < 256) ∧ s2 = .int .i64 q ∧ AdBox wx w.heap.size true sb ∧ AdBox wx (w.heap.size + 1) true db ∧ Below w.heap.size w wx)
  case first =>
    have hS : Below w.heap.size w W.drew := HA.out.2.2.drew
    have A : AdBox W.drew w.heap.size sv sb := HA.out.1.later (Below.refl _ _).drew (Nat.le_refl _)
    have P : AdBox W.drew (w.heap.size + 1) dv db := HA.out.2.1.later (Below.refl _ _).drew (Nat.le_refl _)
    refine rg_begin (fun w' => Below w.heap.size w w') 11 (by kernel_rfl) rfl ?_
    obtain ⟨W0, hW0⟩ : ∃ W0, W.drew = W0 := ⟨_, rfl⟩
    rw [hW0] at hS A P ⊢
    clear hW0
    refine rg_take 4 (v := ?rv1) rfl (by kernel_rfl) (by kernel_rfl) (by kernel_rfl) (fun _ _ _ h => h) (by rfl) hS (fun w2 hw2 => ?ry1) ?rr1
    case ry1 => ((try dsimp only at hw2); go_simp <;> with_reducible rfl)
    simp only [Act.put, List.setIfInBounds_toArray, List.set_cons_zero, List.set_cons_succ]
    refine rg_take 5 (v := ?rv2) rfl (by kernel_rfl) (by kernel_rfl) (by kernel_rfl) (fun _ _ _ h => h) (by rfl) hS (fun w2 hw2 => ?ry2) ?rr2
    case ry2 => ((try dsimp only at hw2); go_simp <;> with_reducible rfl)
    simp only [Act.put, List.setIfInBounds_toArray, List.set_cons_zero, List.set_cons_succ]
    refine rg_take 6 (v := ?rv3) rfl (by kernel_rfl) (by kernel_rfl) (by kernel_rfl) (fun _ _ _ h => h) (by rfl) hS (fun w2 hw2 => ?ry3) ?rr3
    case ry3 => ((try dsimp only at hw2); go_simp <;> with_reducible rfl)
    simp only [Act.put, List.setIfInBounds_toArray, List.set_cons_zero, List.set_cons_succ]
    refine rg_take 7 (v := ?rv4) rfl (by kernel_rfl) (by kernel_rfl) (by kernel_rfl) (fun _ _ _ h => h) (by rfl) hS (fun w2 hw2 => ?ry4) ?rr4
    case ry4 => ((try dsimp only at hw2); go_simp <;> with_reducible rfl)
    simp only [Act.put, List.setIfInBounds_toArray, List.set_cons_zero, List.set_cons_succ]
    refine rg_any [0, 2] (by kernel_rfl) (by simp) ?_
    refine rg_or 0 rfl (by rfl) (fun K hK => ?_) ?_
    · refine wp_load_ad (.tmp 6) rfl rfl A ?_
      refine hK.out _ _ hS ?_
      clear hK K
      try simp only [Act.put, List.setIfInBounds_toArray, List.set_cons_zero, List.set_cons_succ]
      refine rg_any [1, 2] (by kernel_rfl) (by simp) ?_
      refine rg_or 1 rfl (by rfl) (fun K hK => ?_) ?_
      · go_simp
        refine (P1.out _).mono ?_
        rintro e u2 ⟨rfl, bK⟩
        replace A := A.later bK (Nat.le_refl _)
        replace P := P.later bK (Nat.le_refl _)
        replace hS := hS.trans (bK.mono hS.size)
        clear bK
        refine hK.out _ _ hS ?_
        clear hK K
        try simp only [Act.put, List.setIfInBounds_toArray, List.set_cons_zero, List.set_cons_succ]
        refine rg_step 2 rfl (by kernel_rfl) (by rfl) (fun K hK => ?_)
        refine wp_load_ad (.tmp 7) rfl rfl P ?_
        refine hK.out _ _ hS ?_
        clear hK K
        try simp only [Act.put, List.setIfInBounds_toArray, List.set_cons_zero, List.set_cons_succ]
        refine rg_step 3 rfl (by kernel_rfl) (by rfl) (fun K hK => ?_)
        go_simp
        refine (P2.out _).mono ?_
        rintro e u4 ⟨rfl, bK⟩
        replace A := A.later bK (Nat.le_refl _)
        replace P := P.later bK (Nat.le_refl _)
        replace hS := hS.trans (bK.mono hS.size)
        clear bK
        refine hK.out _ _ hS ?_
        clear hK K
        try simp only [Act.put, List.setIfInBounds_toArray, List.set_cons_zero, List.set_cons_succ]
        refine rg_step 8 rfl (by kernel_rfl) (by rfl) (fun K hK => ?_)
        refine wp_store_adF (.tmp 6) (.tmp 29) rfl rfl rfl hsb A ?_
        intro u5 A2 far keep
        replace P := P.same (far _ hne.symm)
        replace hS := keep _ _ (Nat.le_refl _) hS
        clear A far keep
        have A := A2
        clear A2
        refine hK.out _ _ hS ?_
        clear hK K
        try simp only [Act.put]
        refine rg_step 9 rfl (by kernel_rfl) (by rfl) (fun K hK => ?_)
        refine wp_store_adF (.tmp 7) (.tmp 31) rfl rfl rfl hdb P ?_
        intro u6 P3 far keep
        replace A := A.same (far _ hne)
        replace hS := keep _ _ (Nat.le_succ _) hS
        clear P far keep
        have P := P3
        clear P3
        refine hK.out _ _ hS ?_
        clear hK K
        try simp only [Act.put]
        refine rg_take 10 (v := ?rv5) rfl (by kernel_rfl) (by kernel_rfl) (by kernel_rfl) (fun _ _ _ h => h) (by rfl) hS (fun w2 hw2 => ?ry5) ?rr5
        case ry5 => ((try dsimp only at hw2); go_simp <;> with_reducible rfl)
        simp only [Act.put, List.setIfInBounds_toArray, List.set_cons_zero, List.set_cons_succ]
        refine rg_done (by kernel_rfl) ?_
        go_wp2_with fail
        go_meet
        exact ⟨_, MQ.out, congrArg (Value.int .i64) (IntWalk.i64_left _), A, P, hS⟩
      refine rg_or 2 rfl (by rfl) (fun K hK => ?_) AllReadyH.nil
      · refine wp_load_ad (.tmp 7) rfl rfl P ?_
        refine hK.out _ _ hS ?_
        clear hK K
        try simp only [Act.put, List.setIfInBounds_toArray, List.set_cons_zero, List.set_cons_succ]
        refine rg_step 1 rfl (by kernel_rfl) (by rfl) (fun K hK => ?_)
        go_simp
        refine (P1.out _).mono ?_
        rintro e u8 ⟨rfl, bK⟩
        replace A := A.later bK (Nat.le_refl _)
        replace P := P.later bK (Nat.le_refl _)
        replace hS := hS.trans (bK.mono hS.size)
        clear bK
        refine hK.out _ _ hS ?_
        clear hK K
        try simp only [Act.put, List.setIfInBounds_toArray, List.set_cons_zero, List.set_cons_succ]
        refine rg_step 3 rfl (by kernel_rfl) (by rfl) (fun K hK => ?_)
        go_simp
        refine (P2.out _).mono ?_
        rintro e u9 ⟨rfl, bK⟩
        replace A := A.later bK (Nat.le_refl _)
        replace P := P.later bK (Nat.le_refl _)
        replace hS := hS.trans (bK.mono hS.size)
        clear bK
        refine hK.out _ _ hS ?_
        clear hK K
        try simp only [Act.put, List.setIfInBounds_toArray, List.set_cons_zero, List.set_cons_succ]
        refine rg_step 8 rfl (by kernel_rfl) (by rfl) (fun K hK => ?_)
        refine wp_store_adF (.tmp 6) (.tmp 29) rfl rfl rfl hsb A ?_
        intro u10 A2 far keep
        replace P := P.same (far _ hne.symm)
        replace hS := keep _ _ (Nat.le_refl _) hS
        clear A far keep
        have A := A2
        clear A2
        refine hK.out _ _ hS ?_
        clear hK K
        try simp only [Act.put]
        refine rg_step 9 rfl (by kernel_rfl) (by rfl) (fun K hK => ?_)
        refine wp_store_adF (.tmp 7) (.tmp 31) rfl rfl rfl hdb P ?_
        intro u11 P3 far keep
        replace A := A.same (far _ hne)
        replace hS := keep _ _ (Nat.le_succ _) hS
        clear P far keep
        have P := P3
        clear P3
        refine hK.out _ _ hS ?_
        clear hK K
        try simp only [Act.put]
        refine rg_take 10 (v := ?rv6) rfl (by kernel_rfl) (by kernel_rfl) (by kernel_rfl) (fun _ _ _ h => h) (by rfl) hS (fun w2 hw2 => ?ry6) ?rr6
        case ry6 => ((try dsimp only at hw2); go_simp <;> with_reducible rfl)
        simp only [Act.put, List.setIfInBounds_toArray, List.set_cons_zero, List.set_cons_succ]
        refine rg_done (by kernel_rfl) ?_
        go_wp2_with fail
        go_meet
        exact ⟨_, MQ.out, congrArg (Value.int .i64) (IntWalk.i64_left _), A, P, hS⟩
    refine rg_or 2 rfl (by rfl) (fun K hK => ?_) AllReadyH.nil
    · refine wp_load_ad (.tmp 7) rfl rfl P ?_
      refine hK.out _ _ hS ?_
      clear hK K
      try simp only [Act.put, List.setIfInBounds_toArray, List.set_cons_zero, List.set_cons_succ]
      refine rg_step 0 rfl (by kernel_rfl) (by rfl) (fun K hK => ?_)
      refine wp_load_ad (.tmp 6) rfl rfl A ?_
      refine hK.out _ _ hS ?_
      clear hK K
      try simp only [Act.put, List.setIfInBounds_toArray, List.set_cons_zero, List.set_cons_succ]
      refine rg_step 1 rfl (by kernel_rfl) (by rfl) (fun K hK => ?_)
      go_simp
      refine (P1.out _).mono ?_
      rintro e u14 ⟨rfl, bK⟩
      replace A := A.later bK (Nat.le_refl _)
      replace P := P.later bK (Nat.le_refl _)
      replace hS := hS.trans (bK.mono hS.size)
      clear bK
      refine hK.out _ _ hS ?_
      clear hK K
      try simp only [Act.put, List.setIfInBounds_toArray, List.set_cons_zero, List.set_cons_succ]
      refine rg_step 3 rfl (by kernel_rfl) (by rfl) (fun K hK => ?_)
      go_simp
      refine (P2.out _).mono ?_
      rintro e u15 ⟨rfl, bK⟩
      replace A := A.later bK (Nat.le_refl _)
      replace P := P.later bK (Nat.le_refl _)
      replace hS := hS.trans (bK.mono hS.size)
      clear bK
      refine hK.out _ _ hS ?_
      clear hK K
      try simp only [Act.put, List.setIfInBounds_toArray, List.set_cons_zero, List.set_cons_succ]
      refine rg_step 8 rfl (by kernel_rfl) (by rfl) (fun K hK => ?_)
      refine wp_store_adF (.tmp 6) (.tmp 29) rfl rfl rfl hsb A ?_
      intro u16 A2 far keep
      replace P := P.same (far _ hne.symm)
      replace hS := keep _ _ (Nat.le_refl _) hS
      clear A far keep
      have A := A2
      clear A2
      refine hK.out _ _ hS ?_
      clear hK K
      try simp only [Act.put]
      refine rg_step 9 rfl (by kernel_rfl) (by rfl) (fun K hK => ?_)
      refine wp_store_adF (.tmp 7) (.tmp 31) rfl rfl rfl hdb P ?_
      intro u17 P3 far keep
      replace A := A.same (far _ hne)
      replace hS := keep _ _ (Nat.le_succ _) hS
      clear P far keep
      have P := P3
      clear P3
      refine hK.out _ _ hS ?_
      clear hK K
      try simp only [Act.put]
      refine rg_take 10 (v := ?rv7) rfl (by kernel_rfl) (by kernel_rfl) (by kernel_rfl) (fun _ _ _ h => h) (by rfl) hS (fun w2 hw2 => ?ry7) ?rr7
      case ry7 => ((try dsimp only at hw2); go_simp <;> with_reducible rfl)
      simp only [Act.put, List.setIfInBounds_toArray, List.set_cons_zero, List.set_cons_succ]
      refine rg_done (by kernel_rfl) ?_
      go_wp2_with fail
      go_meet
      exact ⟨_, MQ.out, congrArg (Value.int .i64) (IntWalk.i64_left _), A, P, hS⟩
  case rest =>
    obtain ⟨q, ⟨hq0, hq1⟩, rfl, a1, a2, hB⟩ := hcut
    have H3 := Lib.hid (And.intro a1 (And.intro a2 hB))
    clear a1 a2 hB
    go_upto_region 4 with fail
    go_cut [49] (fun s wx => ∃ bx : Bool, (bx = true → ext q) ∧ (bx = false → ¬ ext q) ∧ s = .bool bx ∧ wx = wc)
    case first =>
      rcases (show q = 0 ∨ q = 43 ∨ q = 60 ∨ q = 44 ∨ ¬ (q = 0 ∨ q = 43 ∨ q = 60 ∨ q = 44) by omega) with rfl | rfl | rfl | rfl | h
      · go_wp2_with fail
        go_meet
        exact ⟨true, fun _ => by decide, (fun h => by cases h), rfl, rfl⟩
      · go_wp2_with fail
        go_meet
        exact ⟨true, fun _ => by decide, (fun h => by cases h), rfl, rfl⟩
      · go_wp2_with fail
        go_meet
        exact ⟨true, fun _ => by decide, (fun h => by cases h), rfl, rfl⟩
      · go_wp2_with fail
        go_meet
        exact ⟨true, fun _ => by decide, (fun h => by cases h), rfl, rfl⟩
      · have h0 : (q == 0) = false := by simp; omega
        have h1 : (q == 43) = false := by simp; omega
        have h2 : (q == 60) = false := by simp; omega
        have h3 : (q == 44) = false := by simp; omega
        have HX := Lib.hid (show ¬ ext q from h)
        clear h
        go_wp2_with fail
        go_meet
        exact ⟨false, (fun h => by cases h), fun _ => HX.out, rfl, rfl⟩
    case rest =>
    obtain ⟨bx, hbx1, hbx2, rfl, rfl⟩ := hcut
    have HBX := Lib.hid (And.intro hbx1 hbx2)
    clear hbx1 hbx2
    go_upto_if 49 with fail
    go_cut [2] (fun s wx => ∃ p : Int, (0 ≤ p ∧ p ≤ 255) ∧ ¬ ext p ∧ s = .int .i64 p ∧ wx = wc)
    case first =>
      cases bx with
      | true =>
        go_wp2_with fail
        go_meet
        exact ⟨17, by omega, by decide, rfl, rfl⟩
      | false =>
        go_wp2_with fail
        go_meet
        exact ⟨q, by omega, by simpa using HBX.out.2, rfl, rfl⟩
    case rest =>
    obtain ⟨p, ⟨hp0, hp1⟩, hpx, rfl, rfl⟩ := hcut
    have HPX := Lib.hid hpx
    clear hpx hq0 hq1
    have hkl := kindsv_length zs
    have hkm := kindsv_may zs
    have k1 := kinds_any (HB.out.2.1.later H3.out.2.2 (Nat.le_refl _))
    generalize kindsv zs = ks at hkl hkm k1
    obtain ⟨z, hz⟩ : ∃ z, ks.length = z := ⟨_, rfl⟩
    rw [hz] at hkl k1
    have hz8 : z ≤ 8 := by omega
    have HY := Lib.hid (show may6 true true p ks n from ⟨rfl, rfl, ⟨hp0, hp1⟩, HPX.out, by omega, hkm, by omega⟩)
    have K1 := Lib.hid k1
    have HZ := Lib.hid hz
    clear hkl hkm k1 hz
    go_wp2_with fail
    refine K1.out.mono ?_
    rintro e1 w4 ⟨A4, c4, rfl, q4, _, b4⟩
    have H4 := Lib.hid (And.intro q4 (And.intro (H3.out.1.later b4 (Nat.le_refl _)) (And.intro (H3.out.2.1.later b4 (Nat.le_refl _)) (H3.out.2.2.trans (b4.mono H3.out.2.2.size)))))
    clear q4 b4
    go_wp2_with (first
      | (refine wpList_load_ad rfl (.tmp 6) rfl rfl H4.out.2.1 ?_)
      | (refine wpList_load_ad rfl (.tmp 7) rfl rfl H4.out.2.2.1 ?_))
    have k2 := build_ip6 true true hsb hdb p H4.out.1 (HB.out.1.later H4.out.2.2.2 (Nat.le_refl _))
    unfold BldR at k2
    rw [(build_yes6 HY.out sb db l).1, (build_yes6 HY.out [] [] []).2] at k2
    refine k2.mono ?_
    rintro e2 w5 ⟨A5, n5, c5, v5, rfl, q5, t5, b5⟩
    obtain rfl := Tells.none' t5 rfl
    obtain rfl : 40 + 8 * z + n = n5 := by rw [← q5.len, built6_length hsb hdb p ks HB.out.1.len, HZ.out]
    have hc5 := q5.cap
    have hm5 := q5.max
    unfold maxLen at hm5
    obtain ⟨gb, off, rfl, _⟩ := q5.here (by omega)
    have H5 := Lib.hid (And.intro q5 (And.intro (H4.out.2.1.later b5 (Nat.le_refl _)) (And.intro (H4.out.2.2.1.later b5 (Nat.le_refl _)) (H4.out.2.2.2.trans (b5.mono H4.out.2.2.2.size)))))
    clear k2 q5 t5 b5
    have hv : ip6v (built6 sb db p ks n l ++ mo) (40 + 8 * z + n + k) = (⟨true, sb, db, p, 40 + 8 * (z : Int), 40 + 8 * (z : Int) + (n : Int)⟩, ⟨0, 0, false⟩) := by
      rw [ip6v_built_more hsb hdb HY.out HB.out.1.len mo (by rw [HZ.out, HB.out.2.2.len]), HZ.out]
      have e1 : ((40 + 8 * z : Nat) : Int) = 40 + 8 * (z : Int) := by omega
      have e2 : ((40 + (8 * z + n) : Nat) : Int) = 40 + 8 * (z : Int) + (n : Int) := by omega
      rw [e1, e2]
    have HV := Lib.hid hv
    clear hv
    go_wp2_with (first
      | (at_builtin; refine wpList_append_bs rfl (.tmp 63) (.tmp 64) 26 rfl w5.heap.size 5 info5 Try.underlying26 _ (40 + 8 * z + n) _ rfl H6.out.1 M k e mo rfl (HB.out.2.2.later (H5.out.2.2.2.trans (H6.out.2.mono H5.out.2.2.2.size)) (Nat.le_refl _)) (by omega) H6.out.2.size ?_; intro v7 w7 o7 g7 n7 a7; have b7 : Below w5.heap.size w5 w7 := H6.out.2.grown g7 H6.out.2.size (fun x hx => (H6.out.1.lt x hx).1); obtain ⟨A7, c7, rfl, q7⟩ := Bs.of_own o7; have H7 := Lib.hid (And.intro q7 b7); clear o7 g7 n7 a7 q7 b7)
      | (at_builtin; refine wpList_append_bs rfl (.const (.slice none 0 0)) (.tmp 62) 26 rfl w5.heap.size 5 info5 Try.underlying26 (.slice none 0 0) 0 [] rfl (World.ownsRow_nil _ _ _ _) _ (40 + 8 * z + n) c5 _ rfl H5.out.1 (by omega) (Nat.le_refl _) ?_; intro v6 w6 o6 g6 n6 a6; have b6 : Below w5.heap.size w5 w6 := (Below.refl _ w5).grown g6 (Nat.le_refl _) (fun x hx => by cases hx); have H6 := Lib.hid (And.intro (owns_n (n' := 40 + 8 * z + n) (by omega) o6) b6); clear o6 g6 n6 a6 b6))
    have k3 := parse_ip6 H7.out.1 (by omega)
    rw [List.nil_append, HV.out] at k3
    unfold ParR at k3
    have hw7 := H5.out.2.2.2.trans (H7.out.2.mono H5.out.2.2.2.size)
    have H8 := Lib.hid (And.intro (H5.out.1.later H7.out.2 (Nat.le_refl _)) (And.intro (H5.out.2.1.later H7.out.2 (Nat.le_refl _)) (And.intro (H5.out.2.2.1.later H7.out.2 (Nat.le_refl _)) hw7)))
    clear hw7
    refine k3.mono ?_
    rintro e3 w9 ⟨v9, rfl, t9, b9⟩
    obtain rfl := Tells.none' t9 rfl
    have H9 := Lib.hid (And.intro (H8.out.1.later b9 (Nat.le_refl _)) (And.intro (H8.out.2.1.later b9 (Nat.le_refl _)) (And.intro (H8.out.2.2.1.later b9 (Nat.le_refl _)) (H8.out.2.2.2.trans (b9.mono H8.out.2.2.2.size)))))
    clear k3 t9 b9
    go_wp2_with (first
      | (refine wpList_alloc_hd rfl rfl ?_; intro w10 a10 b10 z10; have H10 := Lib.hid (And.intro a10 b10); clear a10 b10 z10)
      | (refine wpList_store_hd rfl (.tmp 16) (.tmp 67) rfl ⟨true, sb, db, p, 40 + 8 * (z : Int), 40 + 8 * (z : Int) + (n : Int)⟩ rfl rfl ⟨hsb, hdb⟩ H10.out.1 ?_; intro w11 a11 o11 z11 b11; have bb := b11 _ _ (Nat.le_refl _) H10.out.2; have H11 := Lib.hid (And.intro a11 (And.intro (H9.out.1.later bb (Nat.le_refl _)) (And.intro (H9.out.2.1.later bb (Nat.le_refl _)) (And.intro (H9.out.2.2.1.later bb (Nat.le_refl _)) (H9.out.2.2.2.trans (bb.mono H9.out.2.2.2.size)))))); clear a11 o11 z11 b11 bb))
    refine (awake07 _).mono ?_
    rintro e4 w12 ⟨rfl, b12⟩
    have H12 := Lib.hid (And.intro (H11.out.1.later b12 (Nat.le_refl _)) (And.intro (H11.out.2.1.later b12 (Nat.le_refl _)) (And.intro (H11.out.2.2.1.later b12 (Nat.le_refl _)) (And.intro (H11.out.2.2.2.1.later b12 (Nat.le_refl _)) (H11.out.2.2.2.2.trans (b12.mono H11.out.2.2.2.2.size))))))
    clear b12
    have he : ∀ w, (binOp .eql 36 (.agg (hdv ⟨true, sb, db, p, 40 + 8 * (z : Int), 40 + 8 * (z : Int) + (n : Int)⟩)) (.agg (hdv ⟨true, sb, db, p, 40 + 8 * (z : Int), 40 + 8 * (z : Int) + (n : Int)⟩))).run Try.prog w = .ok (.bool true) w := fun w => eql_hd ⟨hsb, hdb⟩ w
    have s1 : (40 : Int) + 8 * (z : Int) ≤ (c5 : Int) := by omega
    have s2 : (40 : Int) + 8 * (z : Int) ≤ 40 + 8 * (z : Int) + (n : Int) := by omega
    have hdl := built6_rest hsb hdb p ks HB.out.1.len
    rw [HZ.out] at hdl
    have HL := HB.out.1.later H12.out.2.2.2.2 (Nat.le_refl _)
    have HLL := Lib.hid HL
    clear HL
    by_cases hcap : c5 = 40 + 8 * z
    · have ha := H12.out.2.1.cut (i := 40 + 8 * z) (k := n) (by omega) (A' := some ⟨gb, off, none⟩) (fun h => by omega) (by simp)
      rw [hdl] at ha
      have hn0 : n = 0 := by omega
      subst hcap
      rw [Nat.sub_self, hn0] at ha
      clear hn0
      have HS := Lib.hid ha
      clear ha hdl
      go_wp2_with (first
        | (refine wpList_load_hd_w (by rfl) (.tmp 16) rfl rfl H12.out.1 ?_)
        | (refine wpList_load_ad_w (by rfl) (.tmp 6) rfl rfl H12.out.2.2.1 ?_)
        | (refine wpList_load_ad_w (by rfl) (.tmp 7) rfl rfl H12.out.2.2.2.1 ?_)
        | (refine wpList_build_hd_w (by rfl) (.tmp 84) (.tmp 85) (.tmp 86) (.tmp 87) (.tmp 91) rfl true rfl rfl rfl rfl rfl hsb hdb ?_))
      refine (bytes_same HS.out HLL.out).mono ?_
      rintro e5 w' ⟨rfl, rfl⟩
      go_wp2_with fail
      go_ret
      exact ⟨rfl, H12.out.2.2.2.2⟩
    · have ha := H12.out.2.1.cut (i := 40 + 8 * z) (k := n) (by omega) (A' := some ⟨gb, off + (40 + 8 * z), none⟩) (fun _ => by simp [add_plain]) (by simp)
      rw [hdl] at ha
      have HS := Lib.hid ha
      clear ha hdl
      go_wp2_with (first
        | (refine wpList_load_hd_w (by rfl) (.tmp 16) rfl rfl H12.out.1 ?_)
        | (refine wpList_load_ad_w (by rfl) (.tmp 6) rfl rfl H12.out.2.2.1 ?_)
        | (refine wpList_load_ad_w (by rfl) (.tmp 7) rfl rfl H12.out.2.2.2.1 ?_)
        | (refine wpList_build_hd_w (by rfl) (.tmp 84) (.tmp 85) (.tmp 86) (.tmp 87) (.tmp 91) rfl true rfl rfl rfl rfl rfl hsb hdb ?_))
      refine (bytes_same HS.out HLL.out).mono ?_
      rintro e5 w' ⟨rfl, rfl⟩
      go_wp2_with fail
      go_ret
      exact ⟨rfl, H12.out.2.2.2.2⟩
end Go.Proofs.Ytceigepclemdmaa
