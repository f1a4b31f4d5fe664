/-
  Package name's labelAt, follow; cmp.Or of two numbers; strings.Join of labels. Conditions: those of the slices; 2^47 bytes at most.
-/
import Derived.Test.YthhfmjdknoplkaaGreatDoorSm12
import Derived.Test.YthhfmjdknoplkaaGreatDoorReg
namespace Go.Proofs.YthhfmjdknoplkaaGreatDoor
open Go.RowKit
set_option maxRecDepth 100000

/-- What labelAt answers, from 0 on. -/
def latv (l : List UInt8) (n at_ : Nat) (room : Int) : List UInt8 × Fl :=
  if n ≤ at_ then ([], ⟨3, at_, true⟩)
  else if bat l at_ = 0 then ([], ⟨0, 0, false⟩)
  else if (labv (l.drop (at_ + 1)) (n - (at_ + 1)) (bat l at_) room).2 = 0 then ((labv (l.drop (at_ + 1)) (n - (at_ + 1)) (bat l at_) room).1, ⟨0, 0, false⟩)
  else ((labv (l.drop (at_ + 1)) (n - (at_ + 1)) (bat l at_) room).1, ⟨(labv (l.drop (at_ + 1)) (n - (at_ + 1)) (bat l at_) room).2, at_, true⟩)
theorem errV_zero : errV 0 = .nilIface := if_pos rfl
theorem errV_some {c : Int} (h : c ≠ 0) : errV c = .iface 29 (.int .i64 c) := if_neg h
theorem wrap_errV (at_ : Nat) (c : Int) (w : World) : Calls Tryz.prog 41 #[.int .i64 at_, errV c] w fun e w' => ∃ v, e = .returned v ∧ Tells w' v (if c = 0 then ⟨0, 0, false⟩ else ⟨c, at_, true⟩) ∧ Below w.heap.size w w' := by
  by_cases h : c = 0
  · subst h
    rw [errV_zero, if_pos rfl]
    exact (wrap_nil _ w).mono fun e w' ⟨he, hw⟩ => ⟨_, he, Tells.nil _ _ _, by rw [← hw]; exact Below.refl _ _⟩
  · rw [errV_some h, if_neg h]
    exact (wrap_told (a := 0) at_ (Tells.bare w c h 0) h).mono fun e w' ⟨v, he, ht, hb⟩ => ⟨v, he, ht, hb⟩
set_option maxHeartbeats 600000 in
theorem labelAt_any {A : Option Addr} {n c : Nat} {l : List UInt8} {w : World} (hb : Bs w A n c l) (h47 : n ≤ 140737488350000) (at_ : Nat) (ha : at_ ≤ 9223372036854775807) (room : Int) : Calls Tryz.prog 20 #[.slice A n c, .int .i64 at_, .int .i64 room] w fun e w' =>
    ∃ v, e = .returned (.tuple #[.string (mkS (latv l n at_ room).1), v]) ∧ Tells w' v (latv l n at_ room).2 ∧ Below w.heap.size w w' := by
  have hl := hb.len
  have hcap := hb.cap
  have hmax := hb.max
  unfold maxLen at hmax
  have k1 := part_any hb at_ (1 : Nat) (by omega) (by omega) h47
  rw [show ((1 : Nat) : Int) = 1 from rfl] at k1
  unfold latv
  by_cases h1 : n ≤ at_
  · rw [if_pos h1]
    rw [show (1 : Int) = ((1 : Nat) : Int) from rfl, need_short (by omega) (by omega)] at k1
    have K1 := Lib.hid k1
    clear k1 hb
    go_enter Tryz.func20, Tryz.ntmps20
    go_wp2_with fail
    refine K1.out.mono ?_
    rintro e w1 ⟨A1, n1, c1, v1, rfl, h1, h2, h3⟩
    obtain ⟨T, x, rfl⟩ := Tells.held' h2 (by simp)
    have H1 := Lib.hid (And.intro h2 h3)
    clear h1 h2 h3
    go_wp2_with fail
    go_ret2
    exact ⟨_, rfl, H1.out.1, H1.out.2⟩
  · rw [if_neg h1]
    have hlt : at_ + 1 ≤ n := by omega
    rw [show (1 : Int) = ((1 : Nat) : Int) from rfl, need_there hlt, part_there hlt] at k1
    obtain ⟨x, hx, hxb⟩ := get_part hl hlt (j := 0) (by omega)
    rw [Nat.add_zero] at hxb
    rw [← hxb]
    have hxl := x.toNat_lt
    have HX := Lib.hid hx
    have HB := Lib.hid hb
    have K1 := Lib.hid k1
    clear k1 hx hxb hb h1
    by_cases h0 : x.toNat = 0
    · rw [if_pos h0]
      go_enter Tryz.func20, Tryz.ntmps20
      go_wp2_with fail
      refine K1.out.mono ?_
      rintro e w1 ⟨A1, n1, c1, v1, rfl, h1, h2, h3⟩
      obtain rfl := Tells.none' h2 rfl
      have hn1 : n1 = 1 := by rw [← h1.len, List.length_take, List.length_drop, hl]; omega
      subst hn1
      obtain ⟨b, off, rfl, hc⟩ := h1.here (by omega)
      have hc1 := hc 0 x HX.out
      rw [Nat.add_zero] at hc1
      have H1 := Lib.hid h3
      clear h1 h2 h3 hc
      go_wp2_with fail
      go_ret2
      exact ⟨_, rfl, Tells.nil _ _ _, H1.out⟩
    · rw [if_neg h0]
      have hq0 : IntKind.i64.wrap ((at_ : Int) + 1) = ((at_ + 1 : Nat) : Int) := by rw [IntKind.wrap_i64]; omega
      obtain ⟨q, hq⟩ : ∃ q, at_ + 1 = q := ⟨_, rfl⟩
      rw [hq] at hq0 hlt ⊢
      have hxw : IntKind.i64.wrap (x.toNat : Int) = (x.toNat : Int) := by rw [IntKind.wrap_i64]; omega
      have HXW := Lib.hid hxw
      have HQ := Lib.hid hq0
      have HQ2 := Lib.hid hq
      clear hq0 hq hxw
      have hz : (l.drop q).take (n - q) = l.drop q := List.take_of_length_le (by rw [List.length_drop, hl]; exact Nat.le_refl _)
      obtain ⟨r, hr⟩ : ∃ r, labv (l.drop q) (n - q) x.toNat room = r := ⟨_, rfl⟩
      have hfin : (if r.2 = 0 then (r.1, (⟨0, 0, false⟩ : Fl)) else (r.1, ⟨r.2, at_, true⟩)) = (r.1, if r.2 = 0 then ⟨0, 0, false⟩ else ⟨r.2, at_, true⟩) := by split <;> rfl
      rw [hr, hfin]
      clear hfin
      obtain ⟨f, hf⟩ : ∃ f : Fl, (if r.2 = 0 then ⟨0, 0, false⟩ else ⟨r.2, at_, true⟩) = f := ⟨_, rfl⟩
      rw [hf]
      have HF := Lib.hid hf
      clear hf
      have hqc : q ≤ c := by omega
      have hat : at_ + 1 ≤ n := by have := HQ2.out; omega
      by_cases hck : c = q
      · have hcut := fun w1 (hb1 : Below w.heap.size w w1) => label_any ((HB.out.later hb1 (Nat.le_refl _)).cut (i := q) (k := n - q) (by omega) (A' := A) (fun h => absurd h (by omega)) (fun h => h)) x.toNat hxl room
        rw [hz, hr] at hcut
        clear hz hr
        obtain rfl : n = q := by omega
        obtain rfl : c = n := hck
        simp only [Nat.sub_self] at hcut
        have HC := Lib.hid hcut
        clear hcut
        go_enter Tryz.func20, Tryz.ntmps20
        go_wp2_with fail
        refine K1.out.mono ?_
        rintro e w1 ⟨A1, n1, c1, v1, rfl, h1, h2, h3⟩
        obtain rfl := Tells.none' h2 rfl
        have hn1 : n1 = 1 := by rw [← h1.len, List.length_take, List.length_drop, hl]; omega
        subst hn1
        obtain ⟨b, off, rfl, hc⟩ := h1.here (by omega)
        have hc1 := hc 0 x HX.out
        rw [Nat.add_zero] at hc1
        have hcell : ∀ w', Below w1.heap.size w1 w' → w'.cell? ⟨b, off, none⟩ = some (.int .u8 x.toNat) := fun w' h => by rw [h.cell (p := ⟨b, off, none⟩) (lt_of_cell' hc1)]; exact hc1
        have H1 := Lib.hid h3
        clear h1 h2 h3 hc
        go_wp2_with fail
        clear hc1
        have hS : Below w1.heap.size w1 w1.drew := (Below.refl _ _).drew
        refine rg_begin (fun w' => Below w1.heap.size w1 w') 15 (by kernel_rfl) rfl ?_
        refine rg_take 0 (v := ?rv1) rfl (by kernel_rfl) (by kernel_rfl) (by kernel_rfl) (fun _ _ _ h => h) (by rfl) hS (fun w2 hw2 => ?ry1) ?rr1
        case ry1 => ((try dsimp only at hw2); go_simp <;> with_reducible rfl)
        simp only [Act.put, List.setIfInBounds_toArray, List.set_cons_zero, List.set_cons_succ]
        refine rg_take 1 (v := ?rv2) rfl (by kernel_rfl) (by kernel_rfl) (by kernel_rfl) (fun _ _ _ h => h) (by rfl) hS (fun w2 hw2 => ?ry2) ?rr2
        case ry2 => ((try dsimp only at hw2); go_simp <;> with_reducible rfl)
        simp only [Act.put, List.setIfInBounds_toArray, List.set_cons_zero, List.set_cons_succ]
        refine rg_take 2 (v := ?rv3) rfl (by kernel_rfl) (by kernel_rfl) (by kernel_rfl) (fun _ _ _ h => h) (by rfl) hS (fun w2 hw2 => ?ry3) ?rr3
        case ry3 => ((try dsimp only at hw2); go_simp <;> with_reducible rfl)
        simp only [Act.put, List.setIfInBounds_toArray, List.set_cons_zero, List.set_cons_succ]
        rw [HQ.out]
        refine rg_take 3 (v := ?rv4) rfl (by kernel_rfl) (by kernel_rfl) (by kernel_rfl) (fun _ _ _ h => h) (by rfl) hS (fun w2 hw2 => ?ry4) ?rr4
        case ry4 => ((try dsimp only at hw2); go_simp <;> with_reducible rfl)
        simp only [Act.put, List.setIfInBounds_toArray, List.set_cons_zero, List.set_cons_succ]
        refine rg_take 4 (v := ?rv5) rfl (by kernel_rfl) (by kernel_rfl) (by kernel_rfl) (fun _ _ _ h => h) (by rfl) hS (fun w2 hw2 => ?ry5) ?rr5
        case ry5 => ((try dsimp only at hw2); go_simp <;> with_reducible rfl)
        simp only [Act.put, List.setIfInBounds_toArray, List.set_cons_zero, List.set_cons_succ]
        refine rg_take 5 (v := ?rv6) rfl (by kernel_rfl) (by kernel_rfl) (by kernel_rfl) (fun _ _ _ h => h) (by rfl) hS (fun w2 hw2 => ?ry6) ?rr6
        case ry6 => ((try dsimp only at hw2); go_simp <;> with_reducible rfl)
        simp only [Act.put, List.setIfInBounds_toArray, List.set_cons_zero, List.set_cons_succ]
        refine rg_take 6 (v := ?rv7) rfl (by kernel_rfl) (by kernel_rfl) (by kernel_rfl) (fun _ _ _ h => h) (by rfl) hS (fun w2 hw2 => ?ry7) ?rr7
        case ry7 => ((try dsimp only at hw2); go_simp <;> with_reducible rfl)
        simp only [Act.put, List.setIfInBounds_toArray, List.set_cons_zero, List.set_cons_succ]
        refine rg_take 7 (v := ?rv8) rfl (by kernel_rfl) (by kernel_rfl) (by kernel_rfl) (fun _ _ _ h => h) (by rfl) hS (fun w2 hw2 => ?ry8) ?rr8
        case ry8 => ((try dsimp only at hw2); go_simp <;> with_reducible rfl)
        simp only [Act.put, List.setIfInBounds_toArray, List.set_cons_zero, List.set_cons_succ]
        rw [HXW.out]
        refine rg_take 8 (v := ?rv9) rfl (by kernel_rfl) (by kernel_rfl) (by kernel_rfl) (fun _ _ _ h => h) (by rfl) hS (fun w2 hw2 => ?ry9) ?rr9
        case ry9 => ((try dsimp only at hw2); go_simp <;> with_reducible rfl)
        simp only [Act.put, List.setIfInBounds_toArray, List.set_cons_zero, List.set_cons_succ]
        refine rg_step 9 rfl (by kernel_rfl) (by rfl) (fun K hK => ?_)
        go_simp
        refine (HC.out _ (H1.out.trans (hS.mono H1.out.size))).mono ?_
        rintro e w2 ⟨rfl, b2⟩
        have hS1 := hS.trans (b2.mono hS.size)
        clear hS b2
        have hS := hS1
        clear hS1
        refine hK.out _ _ hS ?_
        clear hK K
        try simp only [Act.put, List.setIfInBounds_toArray, List.set_cons_zero, List.set_cons_succ]
        refine rg_take 10 (v := ?rv10) rfl (by kernel_rfl) (by kernel_rfl) (by kernel_rfl) (fun _ _ _ h => h) (by rfl) hS (fun w2 hw2 => ?ry10) ?rr10
        case ry10 => ((try dsimp only at hw2); go_simp <;> with_reducible rfl)
        simp only [Act.put, List.setIfInBounds_toArray, List.set_cons_zero, List.set_cons_succ]
        refine rg_take 11 (v := ?rv11) rfl (by kernel_rfl) (by kernel_rfl) (by kernel_rfl) (fun _ _ _ h => h) (by rfl) hS (fun w2 hw2 => ?ry11) ?rr11
        case ry11 => ((try dsimp only at hw2); go_simp <;> with_reducible rfl)
        simp only [Act.put, List.setIfInBounds_toArray, List.set_cons_zero, List.set_cons_succ]
        refine rg_take 12 (v := ?rv12) rfl (by kernel_rfl) (by kernel_rfl) (by kernel_rfl) (fun _ _ _ h => h) (by rfl) hS (fun w2 hw2 => ?ry12) ?rr12
        case ry12 => ((try dsimp only at hw2); go_simp <;> with_reducible rfl)
        simp only [Act.put, List.setIfInBounds_toArray, List.set_cons_zero, List.set_cons_succ]
        refine rg_take 13 (v := ?rv13) rfl (by kernel_rfl) (by kernel_rfl) (by kernel_rfl) (fun _ _ _ h => h) (by rfl) hS (fun w2 hw2 => ?ry13) ?rr13
        case ry13 => ((try dsimp only at hw2); go_simp <;> with_reducible rfl)
        simp only [Act.put, List.setIfInBounds_toArray, List.set_cons_zero, List.set_cons_succ]
        refine rg_take 14 (v := ?rv14) rfl (by kernel_rfl) (by kernel_rfl) (by kernel_rfl) (fun _ _ _ h => h) (by rfl) hS (fun w2 hw2 => ?ry14) ?rr14
        case ry14 => ((try dsimp only at hw2); go_simp <;> with_reducible rfl)
        simp only [Act.put, List.setIfInBounds_toArray, List.set_cons_zero, List.set_cons_succ]
        refine rg_done (by kernel_rfl) ?_
        have H2 := Lib.hid (H1.out.trans (hS.mono H1.out.size))
        clear hS hcell
        go_wp2_with fail
        refine (wrap_errV at_ r.2 _).mono ?_
        rintro e w3 ⟨v3, rfl, t3, b3⟩
        rw [HF.out] at t3
        have H3 := Lib.hid (And.intro t3 (H2.out.trans (b3.mono H2.out.size)))
        clear t3 b3
        go_wp2_with fail
        go_ret2
        exact ⟨_, rfl, H3.out.1, H3.out.2⟩
      · have hcut := fun w1 (hb1 : Below w.heap.size w w1) => label_any ((HB.out.later hb1 (Nat.le_refl _)).cut (i := q) (k := n - q) (by omega) (A' := A.map (·.add q)) (fun _ => rfl) (by cases A <;> simp)) x.toNat hxl room
        rw [hz, hr] at hcut
        clear hz hr
        have HC := Lib.hid hcut
        clear hcut
        go_enter Tryz.func20, Tryz.ntmps20
        go_wp2_with fail
        refine K1.out.mono ?_
        rintro e w1 ⟨A1, n1, c1, v1, rfl, h1, h2, h3⟩
        obtain rfl := Tells.none' h2 rfl
        have hn1 : n1 = 1 := by rw [← h1.len, List.length_take, List.length_drop, hl]; omega
        subst hn1
        obtain ⟨b, off, rfl, hc⟩ := h1.here (by omega)
        have hc1 := hc 0 x HX.out
        rw [Nat.add_zero] at hc1
        have hcell : ∀ w', Below w1.heap.size w1 w' → w'.cell? ⟨b, off, none⟩ = some (.int .u8 x.toNat) := fun w' h => by rw [h.cell (p := ⟨b, off, none⟩) (lt_of_cell' hc1)]; exact hc1
        have H1 := Lib.hid h3
        clear h1 h2 h3 hc
        go_wp2_with fail
        clear hc1
        have hS : Below w1.heap.size w1 w1.drew := (Below.refl _ _).drew
        refine rg_begin (fun w' => Below w1.heap.size w1 w') 15 (by kernel_rfl) rfl ?_
        refine rg_take 0 (v := ?rv15) rfl (by kernel_rfl) (by kernel_rfl) (by kernel_rfl) (fun _ _ _ h => h) (by rfl) hS (fun w2 hw2 => ?ry15) ?rr15
        case ry15 => ((try dsimp only at hw2); go_simp <;> with_reducible rfl)
        simp only [Act.put, List.setIfInBounds_toArray, List.set_cons_zero, List.set_cons_succ]
        refine rg_take 1 (v := ?rv16) rfl (by kernel_rfl) (by kernel_rfl) (by kernel_rfl) (fun _ _ _ h => h) (by rfl) hS (fun w2 hw2 => ?ry16) ?rr16
        case ry16 => ((try dsimp only at hw2); go_simp <;> with_reducible rfl)
        simp only [Act.put, List.setIfInBounds_toArray, List.set_cons_zero, List.set_cons_succ]
        refine rg_take 2 (v := ?rv17) rfl (by kernel_rfl) (by kernel_rfl) (by kernel_rfl) (fun _ _ _ h => h) (by rfl) hS (fun w2 hw2 => ?ry17) ?rr17
        case ry17 => ((try dsimp only at hw2); go_simp <;> with_reducible rfl)
        simp only [Act.put, List.setIfInBounds_toArray, List.set_cons_zero, List.set_cons_succ]
        rw [HQ.out]
        refine rg_take 3 (v := ?rv18) rfl (by kernel_rfl) (by kernel_rfl) (by kernel_rfl) (fun _ _ _ h => h) (by rfl) hS (fun w2 hw2 => ?ry18) ?rr18
        case ry18 => ((try dsimp only at hw2); go_simp <;> with_reducible rfl)
        simp only [Act.put, List.setIfInBounds_toArray, List.set_cons_zero, List.set_cons_succ]
        refine rg_take 4 (v := ?rv19) rfl (by kernel_rfl) (by kernel_rfl) (by kernel_rfl) (fun _ _ _ h => h) (by rfl) hS (fun w2 hw2 => ?ry19) ?rr19
        case ry19 => ((try dsimp only at hw2); go_simp <;> with_reducible rfl)
        simp only [Act.put, List.setIfInBounds_toArray, List.set_cons_zero, List.set_cons_succ]
        refine rg_take 5 (v := ?rv20) rfl (by kernel_rfl) (by kernel_rfl) (by kernel_rfl) (fun _ _ _ h => h) (by rfl) hS (fun w2 hw2 => ?ry20) ?rr20
        case ry20 => ((try dsimp only at hw2); go_simp <;> with_reducible rfl)
        simp only [Act.put, List.setIfInBounds_toArray, List.set_cons_zero, List.set_cons_succ]
        refine rg_take 6 (v := ?rv21) rfl (by kernel_rfl) (by kernel_rfl) (by kernel_rfl) (fun _ _ _ h => h) (by rfl) hS (fun w2 hw2 => ?ry21) ?rr21
        case ry21 => ((try dsimp only at hw2); go_simp <;> with_reducible rfl)
        simp only [Act.put, List.setIfInBounds_toArray, List.set_cons_zero, List.set_cons_succ]
        refine rg_take 7 (v := ?rv22) rfl (by kernel_rfl) (by kernel_rfl) (by kernel_rfl) (fun _ _ _ h => h) (by rfl) hS (fun w2 hw2 => ?ry22) ?rr22
        case ry22 => ((try dsimp only at hw2); go_simp <;> with_reducible rfl)
        simp only [Act.put, List.setIfInBounds_toArray, List.set_cons_zero, List.set_cons_succ]
        rw [HXW.out]
        refine rg_take 8 (v := ?rv23) rfl (by kernel_rfl) (by kernel_rfl) (by kernel_rfl) (fun _ _ _ h => h) (by rfl) hS (fun w2 hw2 => ?ry23) ?rr23
        case ry23 => ((try dsimp only at hw2); go_simp <;> with_reducible rfl)
        simp only [Act.put, List.setIfInBounds_toArray, List.set_cons_zero, List.set_cons_succ]
        refine rg_step 9 rfl (by kernel_rfl) (by rfl) (fun K hK => ?_)
        go_simp
        refine (HC.out _ (H1.out.trans (hS.mono H1.out.size))).mono ?_
        rintro e w2 ⟨rfl, b2⟩
        have hS1 := hS.trans (b2.mono hS.size)
        clear hS b2
        have hS := hS1
        clear hS1
        refine hK.out _ _ hS ?_
        clear hK K
        try simp only [Act.put, List.setIfInBounds_toArray, List.set_cons_zero, List.set_cons_succ]
        refine rg_take 10 (v := ?rv24) rfl (by kernel_rfl) (by kernel_rfl) (by kernel_rfl) (fun _ _ _ h => h) (by rfl) hS (fun w2 hw2 => ?ry24) ?rr24
        case ry24 => ((try dsimp only at hw2); go_simp <;> with_reducible rfl)
        simp only [Act.put, List.setIfInBounds_toArray, List.set_cons_zero, List.set_cons_succ]
        refine rg_take 11 (v := ?rv25) rfl (by kernel_rfl) (by kernel_rfl) (by kernel_rfl) (fun _ _ _ h => h) (by rfl) hS (fun w2 hw2 => ?ry25) ?rr25
        case ry25 => ((try dsimp only at hw2); go_simp <;> with_reducible rfl)
        simp only [Act.put, List.setIfInBounds_toArray, List.set_cons_zero, List.set_cons_succ]
        refine rg_take 12 (v := ?rv26) rfl (by kernel_rfl) (by kernel_rfl) (by kernel_rfl) (fun _ _ _ h => h) (by rfl) hS (fun w2 hw2 => ?ry26) ?rr26
        case ry26 => ((try dsimp only at hw2); go_simp <;> with_reducible rfl)
        simp only [Act.put, List.setIfInBounds_toArray, List.set_cons_zero, List.set_cons_succ]
        refine rg_take 13 (v := ?rv27) rfl (by kernel_rfl) (by kernel_rfl) (by kernel_rfl) (fun _ _ _ h => h) (by rfl) hS (fun w2 hw2 => ?ry27) ?rr27
        case ry27 => ((try dsimp only at hw2); go_simp <;> with_reducible rfl)
        simp only [Act.put, List.setIfInBounds_toArray, List.set_cons_zero, List.set_cons_succ]
        refine rg_take 14 (v := ?rv28) rfl (by kernel_rfl) (by kernel_rfl) (by kernel_rfl) (fun _ _ _ h => h) (by rfl) hS (fun w2 hw2 => ?ry28) ?rr28
        case ry28 => ((try dsimp only at hw2); go_simp <;> with_reducible rfl)
        simp only [Act.put, List.setIfInBounds_toArray, List.set_cons_zero, List.set_cons_succ]
        refine rg_done (by kernel_rfl) ?_
        have H2 := Lib.hid (H1.out.trans (hS.mono H1.out.size))
        clear hS hcell
        go_wp2_with fail
        refine (wrap_errV at_ r.2 _).mono ?_
        rintro e w3 ⟨v3, rfl, t3, b3⟩
        rw [HF.out] at t3
        have H3 := Lib.hid (And.intro t3 (H2.out.trans (b3.mono H2.out.size)))
        clear t3 b3
        go_wp2_with fail
        go_ret2
        exact ⟨_, rfl, H3.out.1, H3.out.2⟩

/-- What follow answers. -/
def folv (l : List UInt8) (n at_ below : Nat) : Nat × Fl :=
  if n ≤ at_ + 1 then (0, ⟨3, at_, true⟩) else if below ≤ num2 l at_ % 16384 then (0, ⟨14, at_, true⟩) else (num2 l at_ % 16384, ⟨0, 0, false⟩)
theorem and_low14 {v : Nat} (h : v < 65536) : bits .and .i64 (v : Int) 16383 = ((v % 16384 : Nat) : Int) := by
  have h1 := i64_and_nat' v 16383 (by omega) (by omega)
  rw [show ((16383 : Nat) : Int) = 16383 from rfl] at h1
  rw [h1]
  congr 1
  exact Nat.and_two_pow_sub_one_eq_mod v 14
set_option maxHeartbeats 1000000 in
theorem follow_any {A : Option Addr} {n c : Nat} {l : List UInt8} {w : World} (hb : Bs w A n c l) (at_ below : Nat) (ha : at_ ≤ 9223372036854775807) : Calls Tryz.prog 22 #[.slice A n c, .int .i64 at_, .int .i64 below] w fun e w' =>
    ∃ v, e = .returned (.tuple #[.int .i64 (folv l n at_ below).1, v]) ∧ Tells w' v (folv l n at_ below).2 ∧ Below w.heap.size w w' := by
  unfold folv
  by_cases h1 : n ≤ at_ + 1
  · rw [if_pos h1]
    have k1 := u16_any hb at_ (by omega)
    rw [show (2 : Int) = ((2 : Nat) : Int) from rfl, need_short (by omega) (by omega)] at k1
    have K1 := Lib.hid k1
    clear k1 hb
    go_enter Tryz.func22, Tryz.ntmps22
    go_wp2_with fail
    refine K1.out.mono ?_
    rintro e w1 ⟨v1, rfl, h2, h3⟩
    obtain ⟨T, x, rfl⟩ := Tells.held' h2 (by simp)
    have H1 := Lib.hid (And.intro h2 h3)
    clear h2 h3
    go_wp2_with fail
    go_ret2
    exact ⟨_, rfl, H1.out.1, H1.out.2⟩
  · rw [if_neg h1]
    have k1 := u16_ok hb at_ (by omega)
    rw [show be ((l.drop at_).take 2) = num2 l at_ from rfl] at k1
    have h6 := num2_lt l at_
    have hA := and_low14 h6
    have K1 := Lib.hid k1
    clear k1 hb
    generalize num2 l at_ = v at K1 h6 hA ⊢
    by_cases h2 : below ≤ v % 16384
    · rw [if_pos h2]
      go_enter Tryz.func22, Tryz.ntmps22
      go_wp2_with fail
      refine K1.out.mono ?_
      rintro e w1 ⟨rfl, rfl⟩
      go_wp2_with fail
      refine (wrap_told (a := 0) at_ (Tells.bare _ 14 (by decide) 0) (by decide)).mono ?_
      rintro e w2 ⟨v2, rfl, h1, h2⟩
      have H2 := Lib.hid (And.intro h1 h2)
      clear h1 h2
      go_wp2_with fail
      go_ret2
      exact ⟨_, rfl, H2.out.1, H2.out.2⟩
    · rw [if_neg h2]
      go_enter Tryz.func22, Tryz.ntmps22
      go_wp2_with fail
      refine K1.out.mono ?_
      rintro e w1 ⟨rfl, rfl⟩
      go_wp2_with fail
      go_ret2
      exact ⟨_, rfl, Tells.nil _ _ _, Below.refl _ _⟩

/-- cmp.Or of two numbers. -/
theorem or_any {b : Nat} {x y : Int} {w : World} (h0 : w.cell? ⟨b, 0, none⟩ = some (.int .i64 x)) (h1 : w.cell? ⟨b, 1, none⟩ = some (.int .i64 y)) : Calls Tryz.prog 23 #[.slice (some ⟨b, 0, none⟩) 2 2] w fun e w' => e = .returned (.int .i64 (if x = 0 then y else x)) ∧ w = w' := by
  by_cases hx : x = 0
  · rw [if_pos hx]
    subst hx
    go_enter Tryz.func23, Tryz.ntmps23
    go_wp2_with fail
    go_loop [8] (fun i => i = .int .i64 0 ∨ i = .int .i64 1 ∨ (y = 0 ∧ i = .int .i64 2)) (fun i => 2 - (intOf i).toNat)
    case atStart => exact .inl rfl
    case round =>
      rcases hrel with rfl | rfl | ⟨rfl, rfl⟩
      · go_wp2_with fail
        go_round
        case rel => exact .inr (.inl rfl)
        case measure => decide
      · by_cases hy : y = 0
        · subst hy
          go_wp2_with fail
          go_round
          case rel => exact .inr (.inr ⟨trivial, rfl⟩)
          case measure => decide
        · go_wp2_with fail
          go_ret
          exact ⟨rfl, rfl⟩
      · go_wp2_with fail
        go_ret
        exact ⟨rfl, rfl⟩
  · rw [if_neg hx]
    go_enter Tryz.func23, Tryz.ntmps23
    go_wp2_with fail
    go_loop [8] (fun i => i = .int .i64 0) (fun i => 2 - (intOf i).toNat)
    case atStart => rfl
    case round =>
      subst hrel
      go_wp2_with fail
      go_ret
      exact ⟨rfl, rfl⟩

/-- strings.Join of labels, with dots between. -/
theorem join_eq : ∀ ls : List (List UInt8), Lib.join ls [46] = joinD ls
  | [] => by simp [Lib.join, List.intercalate, joinD]
  | [x] => by rw [Lib.join_one]; rfl
  | x :: y :: r => by
    have h2 : Lib.join (x :: y :: r) [46] = x ++ [46] ++ Lib.join (y :: r) [46] := by simp [Lib.join, List.intercalate]
    rw [h2, join_eq (y :: r), joinD_cons x (by simp)]
    simp
theorem joinD_le : ∀ ls : List (List UInt8), (∀ x ∈ ls, x.length ≤ 1000) → (joinD ls).length ≤ 1001 * ls.length
  | [], _ => by simp [joinD]
  | [x], h => by have := h x (by simp); simp [joinD]; omega
  | x :: y :: r, h => by
    have h1 := joinD_le (y :: r) (fun z hz => h z (List.mem_cons_of_mem _ hz))
    have h2 := h x (by simp)
    rw [joinD_cons x (by simp)]
    simp only [List.length_append, List.length_cons] at h1 ⊢
    omega
theorem join_any {A : Option Addr} {n c : Nat} {ls : List (List UInt8)} {w : World} (hb : Gs w A n c (sv (mkSs ls))) (hx : ∀ x ∈ ls, x.length ≤ 1000) (hn : n ≤ 1000) : Calls Tryz.prog 24 #[.slice A n c, .string ⟨#[46]⟩] w fun e w' => e = .returned (.string (mkS (joinD ls))) ∧ Below w.heap.size w w' := by
  have hlen : ls.length = n := by have := hb.len; unfold sv mkSs at this; rw [List.length_map, List.length_map] at this; exact this
  rcases Nat.eq_zero_or_pos n with h0 | h0
  · subst h0
    obtain rfl := List.eq_nil_of_length_eq_zero hlen
    exact (Tryz.strings_Join_none A c ⟨#[46]⟩ w).mono fun e w' ⟨he, hw⟩ => ⟨he, hw ▸ Below.refl _ _⟩
  · obtain ⟨b, off, rfl, hc⟩ := hb.here h0
    have hxs : (mkSs ls).length = n := by unfold mkSs; rw [List.length_map]; exact hlen
    have hl0 : 0 < ls.length := by omega
    have hlt : b < w.heap.size := by
      have := hc 0 (.string (mkS (ls[0]'hl0))) (by unfold sv mkSs; rw [List.map_map, List.getElem?_map, List.getElem?_eq_getElem hl0]; rfl)
      exact lt_of_cell' this
    have hj : Lib.join ((mkSs ls).map (·.data.toList)) ((⟨#[46]⟩ : ByteArray)).data.toList = joinD ls := by
      rw [show (mkSs ls).map (fun x => x.data.toList) = ls from bts_mk ls]
      exact join_eq ls
    have k := Tryz.strings_Join b off c (mkSs ls) ⟨#[46]⟩ w (fun j x hj => hc j (.string x) (by unfold sv; rw [List.getElem?_map, hj]; rfl)) hlt (by omega) (by rw [hxs]; exact hb.cap) (by rw [hj]; have := joinD_le ls hx; omega)
    rw [hj, hxs] at k
    exact k
end Go.Proofs.YthhfmjdknoplkaaGreatDoor
