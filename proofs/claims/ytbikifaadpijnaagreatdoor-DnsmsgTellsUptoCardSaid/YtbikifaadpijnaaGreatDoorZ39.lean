/-
  Package name's labelAt, follow; cmp.Or of two numbers; strings.Join of labels. Conditions: those of the slices; 2^47 bytes at most.
  Package name's Read: a name in any bytes, or why none. Conditions: those of the slice; 2^47 bytes at most.
  Package name's Write, Under; strings.HasSuffix. Conditions: a million bytes at most; what the program's text has laid (internal/bytealg.MaxLen holds an int).
  stockadeplay.Name: whatever comes of a text is a name. Conditions: the text's length is an int.
  stockadelaw12.awake answers true. Conditions: what the program's text has laid (internal/bytealg.MaxLen holds an int).
  stockaderef12's label, Labels, Right, Under, lower; stockadehelp.Plain of texts. Conditions: the texts' lengths; those of the slices.
-/
import Derived.Test.YtbikifaadpijnaaGreatDoorZ37
import Derived.Test.YtbikifaadpijnaaGreatDoorZ10
import Derived.Lib.AppendStr
import Derived.Test.YtbikifaadpijnaaGreatDoorZ24
import Derived.BigQuiet
import Derived.Deep.QuietTactic
namespace Go.Proofs.YtbikifaadpijnaaGreatDoor
open Go.RowKit
set_option maxRecDepth 100000

/-- What labelAt answers, from 0 on. -/
def latv (l : List UInt8) (n at_ : Nat) (room : Int) : List UInt8 × Fl :=
  if n ≤ at_ then ([], ⟨3, at_, true⟩)
  else if bat l at_ = 0 then ([], ⟨0, 0, false⟩)
  else if (labv (l.drop (at_ + 1)) (n - (at_ + 1)) (bat l at_) room).2 = 0 then ((labv (l.drop (at_ + 1)) (n - (at_ + 1)) (bat l at_) room).1, ⟨0, 0, false⟩)
  else ((labv (l.drop (at_ + 1)) (n - (at_ + 1)) (bat l at_) room).1, ⟨(labv (l.drop (at_ + 1)) (n - (at_ + 1)) (bat l at_) room).2, at_, true⟩)
theorem errV_zero : errV 0 = .nilIface := if_pos rfl
theorem errV_some {c : Int} (h : c ≠ 0) : errV c = .iface 34 (.int .i64 c) := if_neg h
theorem wrap_errV (at_ : Nat) (c : Int) (w : World) : Calls Tryz.prog 20 #[.int .i64 at_, errV c] w fun e w' => ∃ v, e = .returned v ∧ Tells w' v (if c = 0 then ⟨0, 0, false⟩ else ⟨c, at_, true⟩) ∧ Below w.heap.size w w' := by
  by_cases h : c = 0
  · subst h
    rw [errV_zero, if_pos rfl]
    exact (wrap_nil _ w).mono fun e w' ⟨he, hw⟩ => ⟨_, he, Tells.nil _ _ _, by rw [← hw]; exact Below.refl _ _⟩
  · rw [errV_some h, if_neg h]
    exact (wrap_told (a := 0) at_ (Tells.bare w c h 0) h).mono fun e w' ⟨v, he, ht, hb⟩ => ⟨v, he, ht, hb⟩
set_option maxHeartbeats 600000 in
theorem labelAt_any {A : Option Addr} {n c : Nat} {l : List UInt8} {w : World} (hb : Bs w A n c l) (h47 : n ≤ 140737488350000) (at_ : Nat) (ha : at_ ≤ 9223372036854775807) (room : Int) : Calls Tryz.prog 106 #[.slice A n c, .int .i64 at_, .int .i64 room] w fun e w' =>
    ∃ v, e = .returned (.tuple #[.string (mkS (latv l n at_ room).1), v]) ∧ Tells w' v (latv l n at_ room).2 ∧ Below w.heap.size w w' := by
  have hl := hb.len
  have hcap := hb.cap
  have hmax := hb.max
  unfold maxLen at hmax
  have k1 := part_any hb at_ (1 : Nat) (by omega) (by omega) h47
  rw [show ((1 : Nat) : Int) = 1 from rfl] at k1
  unfold latv
  by_cases h1 : n ≤ at_
  · rw [if_pos h1]
    rw [show (1 : Int) = ((1 : Nat) : Int) from rfl, need_short (by omega) (by omega)] at k1
    have K1 := Lib.hid k1
    clear k1 hb
    go_enter Tryz.func106, Tryz.ntmps106
    go_wp2_with fail
    refine K1.out.mono ?_
    rintro e w1 ⟨A1, n1, c1, v1, rfl, h1, h2, h3⟩
    obtain ⟨T, x, rfl⟩ := Tells.held' h2 (by simp)
    have H1 := Lib.hid (And.intro h2 h3)
    clear h1 h2 h3
    go_wp2_with fail
    go_ret2
    exact ⟨_, rfl, H1.out.1, H1.out.2⟩
  · rw [if_neg h1]
    have hlt : at_ + 1 ≤ n := by omega
    rw [show (1 : Int) = ((1 : Nat) : Int) from rfl, need_there hlt, part_there hlt] at k1
    obtain ⟨x, hx, hxb⟩ := get_part hl hlt (j := 0) (by omega)
    rw [Nat.add_zero] at hxb
    rw [← hxb]
    have hxl := x.toNat_lt
    have HX := Lib.hid hx
    have HB := Lib.hid hb
    have K1 := Lib.hid k1
    clear k1 hx hxb hb h1
    by_cases h0 : x.toNat = 0
    · rw [if_pos h0]
      go_enter Tryz.func106, Tryz.ntmps106
      go_wp2_with fail
      refine K1.out.mono ?_
      rintro e w1 ⟨A1, n1, c1, v1, rfl, h1, h2, h3⟩
      obtain rfl := Tells.none' h2 rfl
      have hn1 : n1 = 1 := by rw [← h1.len, List.length_take, List.length_drop, hl]; omega
      subst hn1
      obtain ⟨b, off, rfl, hc⟩ := h1.here (by omega)
      have hc1 := hc 0 x HX.out
      rw [Nat.add_zero] at hc1
      have H1 := Lib.hid h3
      clear h1 h2 h3 hc
      go_wp2_with fail
      go_ret2
      exact ⟨_, rfl, Tells.nil _ _ _, H1.out⟩
    · rw [if_neg h0]
      have hq0 : IntKind.i64.wrap ((at_ : Int) + 1) = ((at_ + 1 : Nat) : Int) := by rw [IntKind.wrap_i64]; omega
      obtain ⟨q, hq⟩ : ∃ q, at_ + 1 = q := ⟨_, rfl⟩
      rw [hq] at hq0 hlt ⊢
      have hxw : IntKind.i64.wrap (x.toNat : Int) = (x.toNat : Int) := by rw [IntKind.wrap_i64]; omega
      have HXW := Lib.hid hxw
      have HQ := Lib.hid hq0
      have HQ2 := Lib.hid hq
      clear hq0 hq hxw
      have hz : (l.drop q).take (n - q) = l.drop q := List.take_of_length_le (by rw [List.length_drop, hl]; exact Nat.le_refl _)
      obtain ⟨r, hr⟩ : ∃ r, labv (l.drop q) (n - q) x.toNat room = r := ⟨_, rfl⟩
      have hfin : (if r.2 = 0 then (r.1, (⟨0, 0, false⟩ : Fl)) else (r.1, ⟨r.2, at_, true⟩)) = (r.1, if r.2 = 0 then ⟨0, 0, false⟩ else ⟨r.2, at_, true⟩) := by split <;> rfl
      rw [hr, hfin]
      clear hfin
      obtain ⟨f, hf⟩ : ∃ f : Fl, (if r.2 = 0 then ⟨0, 0, false⟩ else ⟨r.2, at_, true⟩) = f := ⟨_, rfl⟩
      rw [hf]
      have HF := Lib.hid hf
      clear hf
      have hqc : q ≤ c := by omega
      have hat : at_ + 1 ≤ n := by have := HQ2.out; omega
      by_cases hck : c = q
      · have hcut := fun w1 (hb1 : Below w.heap.size w w1) => label_any ((HB.out.later hb1 (Nat.le_refl _)).cut (i := q) (k := n - q) (by omega) (A' := A) (fun h => absurd h (by omega)) (fun h => h)) x.toNat hxl room
        rw [hz, hr] at hcut
        clear hz hr
        obtain rfl : n = q := by omega
        obtain rfl : c = n := hck
        simp only [Nat.sub_self] at hcut
        have HC := Lib.hid hcut
        clear hcut
        go_enter Tryz.func106, Tryz.ntmps106
        go_wp2_with fail
        refine K1.out.mono ?_
        rintro e w1 ⟨A1, n1, c1, v1, rfl, h1, h2, h3⟩
        obtain rfl := Tells.none' h2 rfl
        have hn1 : n1 = 1 := by rw [← h1.len, List.length_take, List.length_drop, hl]; omega
        subst hn1
        obtain ⟨b, off, rfl, hc⟩ := h1.here (by omega)
        have hc1 := hc 0 x HX.out
        rw [Nat.add_zero] at hc1
        have hcell : ∀ w', Below w1.heap.size w1 w' → w'.cell? ⟨b, off, none⟩ = some (.int .u8 x.toNat) := fun w' h => by rw [h.cell (p := ⟨b, off, none⟩) (lt_of_cell' hc1)]; exact hc1
        have H1 := Lib.hid h3
        clear h1 h2 h3 hc
        go_wp2_with fail
        clear hc1
        have hS : Below w1.heap.size w1 w1.drew := (Below.refl _ _).drew
        refine rg_begin (fun w' => Below w1.heap.size w1 w') 15 (by kernel_rfl) rfl ?_
        refine rg_take 0 (v := ?rv1) rfl (by kernel_rfl) (by kernel_rfl) (by kernel_rfl) (fun _ _ _ h => h) (by rfl) hS (fun w2 hw2 => ?ry1) ?rr1
        case ry1 => ((try dsimp only at hw2); go_simp <;> with_reducible rfl)
        simp only [Act.put, List.setIfInBounds_toArray, List.set_cons_zero, List.set_cons_succ]
        refine rg_take 1 (v := ?rv2) rfl (by kernel_rfl) (by kernel_rfl) (by kernel_rfl) (fun _ _ _ h => h) (by rfl) hS (fun w2 hw2 => ?ry2) ?rr2
        case ry2 => ((try dsimp only at hw2); go_simp <;> with_reducible rfl)
        simp only [Act.put, List.setIfInBounds_toArray, List.set_cons_zero, List.set_cons_succ]
        refine rg_take 2 (v := ?rv3) rfl (by kernel_rfl) (by kernel_rfl) (by kernel_rfl) (fun _ _ _ h => h) (by rfl) hS (fun w2 hw2 => ?ry3) ?rr3
        case ry3 => ((try dsimp only at hw2); go_simp <;> with_reducible rfl)
        simp only [Act.put, List.setIfInBounds_toArray, List.set_cons_zero, List.set_cons_succ]
        rw [HQ.out]
        refine rg_take 3 (v := ?rv4) rfl (by kernel_rfl) (by kernel_rfl) (by kernel_rfl) (fun _ _ _ h => h) (by rfl) hS (fun w2 hw2 => ?ry4) ?rr4
        case ry4 => ((try dsimp only at hw2); go_simp <;> with_reducible rfl)
        simp only [Act.put, List.setIfInBounds_toArray, List.set_cons_zero, List.set_cons_succ]
        refine rg_take 4 (v := ?rv5) rfl (by kernel_rfl) (by kernel_rfl) (by kernel_rfl) (fun _ _ _ h => h) (by rfl) hS (fun w2 hw2 => ?ry5) ?rr5
        case ry5 => ((try dsimp only at hw2); go_simp <;> with_reducible rfl)
        simp only [Act.put, List.setIfInBounds_toArray, List.set_cons_zero, List.set_cons_succ]
        refine rg_take 5 (v := ?rv6) rfl (by kernel_rfl) (by kernel_rfl) (by kernel_rfl) (fun _ _ _ h => h) (by rfl) hS (fun w2 hw2 => ?ry6) ?rr6
        case ry6 => ((try dsimp only at hw2); go_simp <;> with_reducible rfl)
        simp only [Act.put, List.setIfInBounds_toArray, List.set_cons_zero, List.set_cons_succ]
        refine rg_take 6 (v := ?rv7) rfl (by kernel_rfl) (by kernel_rfl) (by kernel_rfl) (fun _ _ _ h => h) (by rfl) hS (fun w2 hw2 => ?ry7) ?rr7
        case ry7 => ((try dsimp only at hw2); go_simp <;> with_reducible rfl)
        simp only [Act.put, List.setIfInBounds_toArray, List.set_cons_zero, List.set_cons_succ]
        refine rg_take 7 (v := ?rv8) rfl (by kernel_rfl) (by kernel_rfl) (by kernel_rfl) (fun _ _ _ h => h) (by rfl) hS (fun w2 hw2 => ?ry8) ?rr8
        case ry8 => ((try dsimp only at hw2); go_simp <;> with_reducible rfl)
        simp only [Act.put, List.setIfInBounds_toArray, List.set_cons_zero, List.set_cons_succ]
        rw [HXW.out]
        refine rg_take 8 (v := ?rv9) rfl (by kernel_rfl) (by kernel_rfl) (by kernel_rfl) (fun _ _ _ h => h) (by rfl) hS (fun w2 hw2 => ?ry9) ?rr9
        case ry9 => ((try dsimp only at hw2); go_simp <;> with_reducible rfl)
        simp only [Act.put, List.setIfInBounds_toArray, List.set_cons_zero, List.set_cons_succ]
        refine rg_step 9 rfl (by kernel_rfl) (by rfl) (fun K hK => ?_)
        go_simp
        refine (HC.out _ (H1.out.trans (hS.mono H1.out.size))).mono ?_
        rintro e w2 ⟨rfl, b2⟩
        have hS1 := hS.trans (b2.mono hS.size)
        clear hS b2
        have hS := hS1
        clear hS1
        refine hK.out _ _ hS ?_
        clear hK K
        try simp only [Act.put, List.setIfInBounds_toArray, List.set_cons_zero, List.set_cons_succ]
        refine rg_take 10 (v := ?rv10) rfl (by kernel_rfl) (by kernel_rfl) (by kernel_rfl) (fun _ _ _ h => h) (by rfl) hS (fun w2 hw2 => ?ry10) ?rr10
        case ry10 => ((try dsimp only at hw2); go_simp <;> with_reducible rfl)
        simp only [Act.put, List.setIfInBounds_toArray, List.set_cons_zero, List.set_cons_succ]
        refine rg_take 11 (v := ?rv11) rfl (by kernel_rfl) (by kernel_rfl) (by kernel_rfl) (fun _ _ _ h => h) (by rfl) hS (fun w2 hw2 => ?ry11) ?rr11
        case ry11 => ((try dsimp only at hw2); go_simp <;> with_reducible rfl)
        simp only [Act.put, List.setIfInBounds_toArray, List.set_cons_zero, List.set_cons_succ]
        refine rg_take 12 (v := ?rv12) rfl (by kernel_rfl) (by kernel_rfl) (by kernel_rfl) (fun _ _ _ h => h) (by rfl) hS (fun w2 hw2 => ?ry12) ?rr12
        case ry12 => ((try dsimp only at hw2); go_simp <;> with_reducible rfl)
        simp only [Act.put, List.setIfInBounds_toArray, List.set_cons_zero, List.set_cons_succ]
        refine rg_take 13 (v := ?rv13) rfl (by kernel_rfl) (by kernel_rfl) (by kernel_rfl) (fun _ _ _ h => h) (by rfl) hS (fun w2 hw2 => ?ry13) ?rr13
        case ry13 => ((try dsimp only at hw2); go_simp <;> with_reducible rfl)
        simp only [Act.put, List.setIfInBounds_toArray, List.set_cons_zero, List.set_cons_succ]
        refine rg_take 14 (v := ?rv14) rfl (by kernel_rfl) (by kernel_rfl) (by kernel_rfl) (fun _ _ _ h => h) (by rfl) hS (fun w2 hw2 => ?ry14) ?rr14
        case ry14 => ((try dsimp only at hw2); go_simp <;> with_reducible rfl)
        simp only [Act.put, List.setIfInBounds_toArray, List.set_cons_zero, List.set_cons_succ]
        refine rg_done (by kernel_rfl) ?_
        have H2 := Lib.hid (H1.out.trans (hS.mono H1.out.size))
        clear hS hcell
        go_wp2_with fail
        refine (wrap_errV at_ r.2 _).mono ?_
        rintro e w3 ⟨v3, rfl, t3, b3⟩
        rw [HF.out] at t3
        have H3 := Lib.hid (And.intro t3 (H2.out.trans (b3.mono H2.out.size)))
        clear t3 b3
        go_wp2_with fail
        go_ret2
        exact ⟨_, rfl, H3.out.1, H3.out.2⟩
      · have hcut := fun w1 (hb1 : Below w.heap.size w w1) => label_any ((HB.out.later hb1 (Nat.le_refl _)).cut (i := q) (k := n - q) (by omega) (A' := A.map (·.add q)) (fun _ => rfl) (by cases A <;> simp)) x.toNat hxl room
        rw [hz, hr] at hcut
        clear hz hr
        have HC := Lib.hid hcut
        clear hcut
        go_enter Tryz.func106, Tryz.ntmps106
        go_wp2_with fail
        refine K1.out.mono ?_
        rintro e w1 ⟨A1, n1, c1, v1, rfl, h1, h2, h3⟩
        obtain rfl := Tells.none' h2 rfl
        have hn1 : n1 = 1 := by rw [← h1.len, List.length_take, List.length_drop, hl]; omega
        subst hn1
        obtain ⟨b, off, rfl, hc⟩ := h1.here (by omega)
        have hc1 := hc 0 x HX.out
        rw [Nat.add_zero] at hc1
        have hcell : ∀ w', Below w1.heap.size w1 w' → w'.cell? ⟨b, off, none⟩ = some (.int .u8 x.toNat) := fun w' h => by rw [h.cell (p := ⟨b, off, none⟩) (lt_of_cell' hc1)]; exact hc1
        have H1 := Lib.hid h3
        clear h1 h2 h3 hc
        go_wp2_with fail
        clear hc1
        have hS : Below w1.heap.size w1 w1.drew := (Below.refl _ _).drew
        refine rg_begin (fun w' => Below w1.heap.size w1 w') 15 (by kernel_rfl) rfl ?_
        refine rg_take 0 (v := ?rv15) rfl (by kernel_rfl) (by kernel_rfl) (by kernel_rfl) (fun _ _ _ h => h) (by rfl) hS (fun w2 hw2 => ?ry15) ?rr15
        case ry15 => ((try dsimp only at hw2); go_simp <;> with_reducible rfl)
        simp only [Act.put, List.setIfInBounds_toArray, List.set_cons_zero, List.set_cons_succ]
        refine rg_take 1 (v := ?rv16) rfl (by kernel_rfl) (by kernel_rfl) (by kernel_rfl) (fun _ _ _ h => h) (by rfl) hS (fun w2 hw2 => ?ry16) ?rr16
        case ry16 => ((try dsimp only at hw2); go_simp <;> with_reducible rfl)
        simp only [Act.put, List.setIfInBounds_toArray, List.set_cons_zero, List.set_cons_succ]
        refine rg_take 2 (v := ?rv17) rfl (by kernel_rfl) (by kernel_rfl) (by kernel_rfl) (fun _ _ _ h => h) (by rfl) hS (fun w2 hw2 => ?ry17) ?rr17
        case ry17 => ((try dsimp only at hw2); go_simp <;> with_reducible rfl)
        simp only [Act.put, List.setIfInBounds_toArray, List.set_cons_zero, List.set_cons_succ]
        rw [HQ.out]
        refine rg_take 3 (v := ?rv18) rfl (by kernel_rfl) (by kernel_rfl) (by kernel_rfl) (fun _ _ _ h => h) (by rfl) hS (fun w2 hw2 => ?ry18) ?rr18
        case ry18 => ((try dsimp only at hw2); go_simp <;> with_reducible rfl)
        simp only [Act.put, List.setIfInBounds_toArray, List.set_cons_zero, List.set_cons_succ]
        refine rg_take 4 (v := ?rv19) rfl (by kernel_rfl) (by kernel_rfl) (by kernel_rfl) (fun _ _ _ h => h) (by rfl) hS (fun w2 hw2 => ?ry19) ?rr19
        case ry19 => ((try dsimp only at hw2); go_simp <;> with_reducible rfl)
        simp only [Act.put, List.setIfInBounds_toArray, List.set_cons_zero, List.set_cons_succ]
        refine rg_take 5 (v := ?rv20) rfl (by kernel_rfl) (by kernel_rfl) (by kernel_rfl) (fun _ _ _ h => h) (by rfl) hS (fun w2 hw2 => ?ry20) ?rr20
        case ry20 => ((try dsimp only at hw2); go_simp <;> with_reducible rfl)
        simp only [Act.put, List.setIfInBounds_toArray, List.set_cons_zero, List.set_cons_succ]
        refine rg_take 6 (v := ?rv21) rfl (by kernel_rfl) (by kernel_rfl) (by kernel_rfl) (fun _ _ _ h => h) (by rfl) hS (fun w2 hw2 => ?ry21) ?rr21
        case ry21 => ((try dsimp only at hw2); go_simp <;> with_reducible rfl)
        simp only [Act.put, List.setIfInBounds_toArray, List.set_cons_zero, List.set_cons_succ]
        refine rg_take 7 (v := ?rv22) rfl (by kernel_rfl) (by kernel_rfl) (by kernel_rfl) (fun _ _ _ h => h) (by rfl) hS (fun w2 hw2 => ?ry22) ?rr22
        case ry22 => ((try dsimp only at hw2); go_simp <;> with_reducible rfl)
        simp only [Act.put, List.setIfInBounds_toArray, List.set_cons_zero, List.set_cons_succ]
        rw [HXW.out]
        refine rg_take 8 (v := ?rv23) rfl (by kernel_rfl) (by kernel_rfl) (by kernel_rfl) (fun _ _ _ h => h) (by rfl) hS (fun w2 hw2 => ?ry23) ?rr23
        case ry23 => ((try dsimp only at hw2); go_simp <;> with_reducible rfl)
        simp only [Act.put, List.setIfInBounds_toArray, List.set_cons_zero, List.set_cons_succ]
        refine rg_step 9 rfl (by kernel_rfl) (by rfl) (fun K hK => ?_)
        go_simp
        refine (HC.out _ (H1.out.trans (hS.mono H1.out.size))).mono ?_
        rintro e w2 ⟨rfl, b2⟩
        have hS1 := hS.trans (b2.mono hS.size)
        clear hS b2
        have hS := hS1
        clear hS1
        refine hK.out _ _ hS ?_
        clear hK K
        try simp only [Act.put, List.setIfInBounds_toArray, List.set_cons_zero, List.set_cons_succ]
        refine rg_take 10 (v := ?rv24) rfl (by kernel_rfl) (by kernel_rfl) (by kernel_rfl) (fun _ _ _ h => h) (by rfl) hS (fun w2 hw2 => ?ry24) ?rr24
        case ry24 => ((try dsimp only at hw2); go_simp <;> with_reducible rfl)
        simp only [Act.put, List.setIfInBounds_toArray, List.set_cons_zero, List.set_cons_succ]
        refine rg_take 11 (v := ?rv25) rfl (by kernel_rfl) (by kernel_rfl) (by kernel_rfl) (fun _ _ _ h => h) (by rfl) hS (fun w2 hw2 => ?ry25) ?rr25
        case ry25 => ((try dsimp only at hw2); go_simp <;> with_reducible rfl)
        simp only [Act.put, List.setIfInBounds_toArray, List.set_cons_zero, List.set_cons_succ]
        refine rg_take 12 (v := ?rv26) rfl (by kernel_rfl) (by kernel_rfl) (by kernel_rfl) (fun _ _ _ h => h) (by rfl) hS (fun w2 hw2 => ?ry26) ?rr26
        case ry26 => ((try dsimp only at hw2); go_simp <;> with_reducible rfl)
        simp only [Act.put, List.setIfInBounds_toArray, List.set_cons_zero, List.set_cons_succ]
        refine rg_take 13 (v := ?rv27) rfl (by kernel_rfl) (by kernel_rfl) (by kernel_rfl) (fun _ _ _ h => h) (by rfl) hS (fun w2 hw2 => ?ry27) ?rr27
        case ry27 => ((try dsimp only at hw2); go_simp <;> with_reducible rfl)
        simp only [Act.put, List.setIfInBounds_toArray, List.set_cons_zero, List.set_cons_succ]
        refine rg_take 14 (v := ?rv28) rfl (by kernel_rfl) (by kernel_rfl) (by kernel_rfl) (fun _ _ _ h => h) (by rfl) hS (fun w2 hw2 => ?ry28) ?rr28
        case ry28 => ((try dsimp only at hw2); go_simp <;> with_reducible rfl)
        simp only [Act.put, List.setIfInBounds_toArray, List.set_cons_zero, List.set_cons_succ]
        refine rg_done (by kernel_rfl) ?_
        have H2 := Lib.hid (H1.out.trans (hS.mono H1.out.size))
        clear hS hcell
        go_wp2_with fail
        refine (wrap_errV at_ r.2 _).mono ?_
        rintro e w3 ⟨v3, rfl, t3, b3⟩
        rw [HF.out] at t3
        have H3 := Lib.hid (And.intro t3 (H2.out.trans (b3.mono H2.out.size)))
        clear t3 b3
        go_wp2_with fail
        go_ret2
        exact ⟨_, rfl, H3.out.1, H3.out.2⟩

/-- What follow answers. -/
def folv (l : List UInt8) (n at_ below : Nat) : Nat × Fl :=
  if n ≤ at_ + 1 then (0, ⟨3, at_, true⟩) else if below ≤ num2 l at_ % 16384 then (0, ⟨14, at_, true⟩) else (num2 l at_ % 16384, ⟨0, 0, false⟩)
theorem and_low14 {v : Nat} (h : v < 65536) : bits .and .i64 (v : Int) 16383 = ((v % 16384 : Nat) : Int) := by
  have h1 := i64_and_nat' v 16383 (by omega) (by omega)
  rw [show ((16383 : Nat) : Int) = 16383 from rfl] at h1
  rw [h1]
  congr 1
  exact Nat.and_two_pow_sub_one_eq_mod v 14
set_option maxHeartbeats 1000000 in
theorem follow_any {A : Option Addr} {n c : Nat} {l : List UInt8} {w : World} (hb : Bs w A n c l) (at_ below : Nat) (ha : at_ ≤ 9223372036854775807) : Calls Tryz.prog 107 #[.slice A n c, .int .i64 at_, .int .i64 below] w fun e w' =>
    ∃ v, e = .returned (.tuple #[.int .i64 (folv l n at_ below).1, v]) ∧ Tells w' v (folv l n at_ below).2 ∧ Below w.heap.size w w' := by
  unfold folv
  by_cases h1 : n ≤ at_ + 1
  · rw [if_pos h1]
    have k1 := u16_any hb at_ (by omega)
    rw [show (2 : Int) = ((2 : Nat) : Int) from rfl, need_short (by omega) (by omega)] at k1
    have K1 := Lib.hid k1
    clear k1 hb
    go_enter Tryz.func107, Tryz.ntmps107
    go_wp2_with fail
    refine K1.out.mono ?_
    rintro e w1 ⟨v1, rfl, h2, h3⟩
    obtain ⟨T, x, rfl⟩ := Tells.held' h2 (by simp)
    have H1 := Lib.hid (And.intro h2 h3)
    clear h2 h3
    go_wp2_with fail
    go_ret2
    exact ⟨_, rfl, H1.out.1, H1.out.2⟩
  · rw [if_neg h1]
    have k1 := u16_ok hb at_ (by omega)
    rw [show be ((l.drop at_).take 2) = num2 l at_ from rfl] at k1
    have h6 := num2_lt l at_
    have hA := and_low14 h6
    have K1 := Lib.hid k1
    clear k1 hb
    generalize num2 l at_ = v at K1 h6 hA ⊢
    by_cases h2 : below ≤ v % 16384
    · rw [if_pos h2]
      go_enter Tryz.func107, Tryz.ntmps107
      go_wp2_with fail
      refine K1.out.mono ?_
      rintro e w1 ⟨rfl, rfl⟩
      go_wp2_with fail
      refine (wrap_told (a := 0) at_ (Tells.bare _ 14 (by decide) 0) (by decide)).mono ?_
      rintro e w2 ⟨v2, rfl, h1, h2⟩
      have H2 := Lib.hid (And.intro h1 h2)
      clear h1 h2
      go_wp2_with fail
      go_ret2
      exact ⟨_, rfl, H2.out.1, H2.out.2⟩
    · rw [if_neg h2]
      go_enter Tryz.func107, Tryz.ntmps107
      go_wp2_with fail
      refine K1.out.mono ?_
      rintro e w1 ⟨rfl, rfl⟩
      go_wp2_with fail
      go_ret2
      exact ⟨_, rfl, Tells.nil _ _ _, Below.refl _ _⟩

/-- cmp.Or of two numbers. -/
theorem or_any {b : Nat} {x y : Int} {w : World} (h0 : w.cell? ⟨b, 0, none⟩ = some (.int .i64 x)) (h1 : w.cell? ⟨b, 1, none⟩ = some (.int .i64 y)) : Calls Tryz.prog 108 #[.slice (some ⟨b, 0, none⟩) 2 2] w fun e w' => e = .returned (.int .i64 (if x = 0 then y else x)) ∧ w = w' := by
  by_cases hx : x = 0
  · rw [if_pos hx]
    subst hx
    go_enter Tryz.func108, Tryz.ntmps108
    go_wp2_with fail
    go_loop [8] (fun i => i = .int .i64 0 ∨ i = .int .i64 1 ∨ (y = 0 ∧ i = .int .i64 2)) (fun i => 2 - (intOf i).toNat)
    case atStart => exact .inl rfl
    case round =>
      rcases hrel with rfl | rfl | ⟨rfl, rfl⟩
      · go_wp2_with fail
        go_round
        case rel => exact .inr (.inl rfl)
        case measure => decide
      · by_cases hy : y = 0
        · subst hy
          go_wp2_with fail
          go_round
          case rel => exact .inr (.inr ⟨trivial, rfl⟩)
          case measure => decide
        · go_wp2_with fail
          go_ret
          exact ⟨rfl, rfl⟩
      · go_wp2_with fail
        go_ret
        exact ⟨rfl, rfl⟩
  · rw [if_neg hx]
    go_enter Tryz.func108, Tryz.ntmps108
    go_wp2_with fail
    go_loop [8] (fun i => i = .int .i64 0) (fun i => 2 - (intOf i).toNat)
    case atStart => rfl
    case round =>
      subst hrel
      go_wp2_with fail
      go_ret
      exact ⟨rfl, rfl⟩

/-- strings.Join of labels, with dots between. -/
theorem join_eq : ∀ ls : List (List UInt8), Lib.join ls [46] = joinD ls
  | [] => by simp [Lib.join, List.intercalate, joinD]
  | [x] => by rw [Lib.join_one]; rfl
  | x :: y :: r => by
    have h2 : Lib.join (x :: y :: r) [46] = x ++ [46] ++ Lib.join (y :: r) [46] := by simp [Lib.join, List.intercalate]
    rw [h2, join_eq (y :: r), joinD_cons x (by simp)]
    simp
theorem joinD_le : ∀ ls : List (List UInt8), (∀ x ∈ ls, x.length ≤ 1000) → (joinD ls).length ≤ 1001 * ls.length
  | [], _ => by simp [joinD]
  | [x], h => by have := h x (by simp); simp [joinD]; omega
  | x :: y :: r, h => by
    have h1 := joinD_le (y :: r) (fun z hz => h z (List.mem_cons_of_mem _ hz))
    have h2 := h x (by simp)
    rw [joinD_cons x (by simp)]
    simp only [List.length_append, List.length_cons] at h1 ⊢
    omega
theorem join_any {A : Option Addr} {n c : Nat} {ls : List (List UInt8)} {w : World} (hb : Gs w A n c (sv (mkSs ls))) (hx : ∀ x ∈ ls, x.length ≤ 1000) (hn : n ≤ 1000) : Calls Tryz.prog 109 #[.slice A n c, .string ⟨#[46]⟩] w fun e w' => e = .returned (.string (mkS (joinD ls))) ∧ Below w.heap.size w w' := by
  have hlen : ls.length = n := by have := hb.len; unfold sv mkSs at this; rw [List.length_map, List.length_map] at this; exact this
  rcases Nat.eq_zero_or_pos n with h0 | h0
  · subst h0
    obtain rfl := List.eq_nil_of_length_eq_zero hlen
    exact (Tryz.strings_Join_none A c ⟨#[46]⟩ w).mono fun e w' ⟨he, hw⟩ => ⟨he, hw ▸ Below.refl _ _⟩
  · obtain ⟨b, off, rfl, hc⟩ := hb.here h0
    have hxs : (mkSs ls).length = n := by unfold mkSs; rw [List.length_map]; exact hlen
    have hl0 : 0 < ls.length := by omega
    have hlt : b < w.heap.size := by
      have := hc 0 (.string (mkS (ls[0]'hl0))) (by unfold sv mkSs; rw [List.map_map, List.getElem?_map, List.getElem?_eq_getElem hl0]; rfl)
      exact lt_of_cell' this
    have hj : Lib.join ((mkSs ls).map (·.data.toList)) ((⟨#[46]⟩ : ByteArray)).data.toList = joinD ls := by
      rw [show (mkSs ls).map (fun x => x.data.toList) = ls from bts_mk ls]
      exact join_eq ls
    have k := Tryz.strings_Join b off c (mkSs ls) ⟨#[46]⟩ w (fun j x hj => hc j (.string x) (by unfold sv; rw [List.getElem?_map, hj]; rfl)) hlt (by omega) (by rw [hxs]; exact hb.cap) (by rw [hj]; have := joinD_le ls hx; omega)
    rw [hj, hxs] at k
    exact k
end Go.Proofs.YtbikifaadpijnaaGreatDoor

namespace Go.Proofs.YtbikifaadpijnaaGreatDoor
open Go.RowKit
set_option maxRecDepth 100000

/-- How far Read has come, as its loop holds it. -/
structure RdOk (l : List UInt8) (n : Nat) (s : Rs) (ls : List (List UInt8)) : Prop where
  size : s.size ≤ 255
  one : 1 ≤ s.size
  len : sizeL ls + 1 = s.size
  name : s.name = joinD ls
  ne : ∀ x ∈ ls, x ≠ []
  next : ∀ v, s.next = some v → 2 ≤ v
  big : s.at_ ≤ 9223372036854775807
  bel : s.below ≤ 9223372036854775807
theorem dotted_join {ls : List (List UInt8)} (hne : ∀ x ∈ ls, x ≠ []) (x : List UInt8) : dotted (joinD ls) x = joinD (ls ++ [x]) := by
  unfold dotted
  by_cases h : ls = []
  · subst h; rfl
  · rw [if_neg (joinD_ne h hne), joinD_snoc ls x h]
theorem sizeL_one (ls : List (List UInt8)) (x : List UInt8) : sizeL (ls ++ [x]) = sizeL ls + (1 + x.length) := by
  rw [sizeL_append]; rfl
theorem low_ne {l : List UInt8} (h : labOk l) : l ≠ [] := labOk_ne h
/-- What a step says, by what labelAt answers. -/
inductive Lat (l : List UInt8) (n : Nat) (s : Rs) : List UInt8 × Fl → Prop
  | bad (c : Int) (r : List UInt8) (hc : c ≠ 0) (h14 : c ≠ 14) (h : rstep l n s = .inr (.bad c s.at_)) : Lat l n s (r, ⟨c, s.at_, true⟩)
  | fin (hn : s.at_ < n) (h : rstep l n s = .inr (.ok s.name (s.next.getD (s.at_ + 1)))) : Lat l n s ([], ⟨0, 0, false⟩)
  | lab (x : List UInt8) (hx : labOk x) (hn : s.at_ + 1 + x.length ≤ n) (hs : s.size + 1 + x.length ≤ 255) (h : rstep l n s = .inl ⟨s.at_ + 1 + x.length, s.below, s.size + 1 + x.length, dotted s.name x, s.next⟩) : Lat l n s (x, ⟨0, 0, false⟩)
  | ptr (r : List UInt8) (hn : s.at_ < n) (h : ∀ f, folv l n s.at_ s.below = f → rstep l n s = if f.2.code = 0 then .inl ⟨f.1, f.1, s.size, s.name, some (s.next.getD (s.at_ + 2))⟩ else .inr (.bad f.2.code s.at_)) : Lat l n s (r, ⟨14, s.at_, true⟩)
theorem folv_cases (l : List UInt8) (n at_ below : Nat) : (n ≤ at_ + 1 ∧ folv l n at_ below = (0, ⟨3, at_, true⟩)) ∨ (at_ + 1 < n ∧ below ≤ num2 l at_ % 16384 ∧ folv l n at_ below = (0, ⟨14, at_, true⟩)) ∨ (at_ + 1 < n ∧ num2 l at_ % 16384 < below ∧ folv l n at_ below = (num2 l at_ % 16384, ⟨0, 0, false⟩)) := by
  unfold folv
  by_cases h1 : n ≤ at_ + 1
  · exact .inl ⟨h1, if_pos h1⟩
  · rw [if_neg h1]
    by_cases h2 : below ≤ num2 l at_ % 16384
    · exact .inr (.inl ⟨by omega, h2, if_pos h2⟩)
    · exact .inr (.inr ⟨by omega, by omega, if_neg h2⟩)
theorem lat_of {l : List UInt8} {n : Nat} (hl : l.length = n) (s : Rs) : Lat l n s (latv l n s.at_ (255 - (s.size : Int))) := by
  unfold latv
  by_cases hn : n ≤ s.at_
  · rw [if_pos hn]
    exact .bad 3 _ (by decide) (by decide) (by unfold rstep; rw [if_pos hn])
  · rw [if_neg hn]
    by_cases h0 : bat l s.at_ = 0
    · rw [if_pos h0]
      exact .fin (by omega) (by unfold rstep; rw [if_neg hn, if_pos h0])
    · rw [if_neg h0]
      have hb := bat_lt l s.at_
      have key : ∀ (r : List UInt8) (c : Int), labv (l.drop (s.at_ + 1)) (n - (s.at_ + 1)) (bat l s.at_) (255 - (s.size : Int)) = (r, c) → Lat l n s (if c = 0 then (r, ⟨0, 0, false⟩) else (r, ⟨c, s.at_, true⟩)) → Lat l n s (if (labv (l.drop (s.at_ + 1)) (n - (s.at_ + 1)) (bat l s.at_) (255 - (s.size : Int))).2 = 0 then ((labv (l.drop (s.at_ + 1)) (n - (s.at_ + 1)) (bat l s.at_) (255 - (s.size : Int))).1, ⟨0, 0, false⟩)
          else ((labv (l.drop (s.at_ + 1)) (n - (s.at_ + 1)) (bat l s.at_) (255 - (s.size : Int))).1, ⟨(labv (l.drop (s.at_ + 1)) (n - (s.at_ + 1)) (bat l s.at_) (255 - (s.size : Int))).2, s.at_, true⟩)) := fun r c e h => by rw [e]; exact h
      by_cases hp : 192 ≤ bat l s.at_
      · refine key [] 14 (by unfold labv; rw [if_pos hp]) ?_
        rw [if_neg (by decide)]
        refine .ptr _ (by omega) fun f hf => ?_
        subst hf
        unfold rstep
        rw [if_neg hn, if_neg h0, if_neg (by omega), if_pos hp]
        rcases folv_cases l n s.at_ s.below with ⟨a, e⟩ | ⟨a, b, e⟩ | ⟨a, b, e⟩
        · rw [e, if_pos (by omega)]; rfl
        · rw [e, if_neg (by omega), if_pos b]; rfl
        · rw [e, if_neg (by omega), if_neg (by omega)]; rfl
      · by_cases h63 : 63 < bat l s.at_
        · refine key [] 12 (by unfold labv; rw [if_neg hp, if_pos h63]) ?_
          rw [if_neg (by decide)]
          exact .bad 12 _ (by decide) (by decide) (by unfold rstep; rw [if_neg hn, if_neg h0, if_neg (by omega), if_neg hp])
        · by_cases hsh : n - (s.at_ + 1) < bat l s.at_
          · refine key [] 3 (by unfold labv; rw [if_neg hp, if_neg h63, if_pos hsh]) ?_
            rw [if_neg (by decide)]
            exact .bad 3 _ (by decide) (by decide) (by unfold rstep; rw [if_neg hn, if_neg h0, if_pos (by omega), if_pos (by omega)])
          · have hlen : (lowL ((l.drop (s.at_ + 1)).take (bat l s.at_))).length = bat l s.at_ := by rw [lowL_length, List.length_take, List.length_drop, hl]; omega
            by_cases hok : labOk (lowL ((l.drop (s.at_ + 1)).take (bat l s.at_)))
            · by_cases hbig : 255 - (s.size : Int) < 1 + (bat l s.at_ : Int)
              · refine key [] 13 (by unfold labv; rw [if_neg hp, if_neg h63, if_neg hsh, if_neg (not_not_intro hok), if_pos hbig]) ?_
                rw [if_neg (by decide)]
                exact .bad 13 _ (by decide) (by decide) (by unfold rstep; rw [if_neg hn, if_neg h0, if_pos (by omega), if_neg (by omega), if_neg (not_not_intro hok), if_pos (by omega)])
              · refine key (lowL ((l.drop (s.at_ + 1)).take (bat l s.at_))) 0 (by unfold labv; rw [if_neg hp, if_neg h63, if_neg hsh, if_neg (not_not_intro hok), if_neg hbig]) ?_
                rw [if_pos rfl]
                refine .lab _ hok (by rw [hlen]; omega) (by rw [hlen]; omega) ?_
                rw [hlen]
                unfold rstep
                rw [if_neg hn, if_neg h0, if_pos (by omega), if_neg (by omega), if_neg (not_not_intro hok), if_neg (by omega)]
            · refine key [] 12 (by unfold labv; rw [if_neg hp, if_neg h63, if_neg hsh, if_pos hok]) ?_
              rw [if_neg (by decide)]
              exact .bad 12 _ (by decide) (by decide) (by unfold rstep; rw [if_neg hn, if_neg h0, if_pos (by omega), if_neg (by omega), if_pos hok])

theorem mem_sizeL : ∀ (ls : List (List UInt8)) (x : List UInt8), x ∈ ls → 1 + x.length ≤ sizeL ls
  | [], _, h => by cases h
  | y :: r, x, h => by
    have e : sizeL (y :: r) = (1 + y.length) + sizeL r := rfl
    rw [e]
    rcases List.mem_cons.1 h with rfl | h
    · omega
    · have := mem_sizeL r x h; omega
theorem nx_or (nx : Option Nat) (hn : ∀ v, nx = some v → 2 ≤ v) (k : Nat) : (if ((nx.getD 0 : Nat) : Int) = 0 then (k : Int) else ((nx.getD 0 : Nat) : Int)) = ((nx.getD k : Nat) : Int) := by
  cases nx with
  | none => rfl
  | some v =>
    have := hn v rfl
    rw [if_neg (by simp; omega)]
    rfl
/-- What Read hands back. -/
def ReadR (r : Rd) (w : World) (e : Ending) (w' : World) : Prop := ∃ v, e = .returned (.tuple #[.string (mkS r.name), .int .i64 r.next, v]) ∧ Tells w' v r.f ∧ Below w.heap.size w w'
theorem sv_snoc (ls : List (List UInt8)) (x : List UInt8) : sv (mkSs (ls ++ [x])) = sv (mkSs ls) ++ [.string (mkS x)] := by unfold sv mkSs; simp
set_option maxHeartbeats 2000000 in
theorem read_from {A : Option Addr} {n c : Nat} {l : List UInt8} {w : World} (hb : Bs w A n c l) (h47 : n ≤ 140737488350000) (at_ : Nat) (ha : at_ ≤ 9223372036854775807) : Calls Tryz.prog 83 #[.slice A n c, .int .i64 at_] w (ReadR (readS l n ⟨at_, at_, 1, [], none⟩) w) := by
  have hl := hb.len
  obtain ⟨R, hR⟩ : ∃ R, readS l n ⟨at_, at_, 1, [], none⟩ = R := ⟨_, rfl⟩
  rw [hR]
  have HB := Lib.hid hb
  have HR := Lib.hid hR
  have HL := Lib.hid hl
  clear hb hR hl
  go_enter Tryz.func83, Tryz.ntmps83
  go_wp2_with fail
  go_loopw [1, 7, 8, 9, 10] (fun a v r b nx wr => ∃ (s : Rs) (ls : List (List UInt8)), RdOk l n s ls ∧ a = .int .i64 s.at_ ∧ b = .int .i64 s.below ∧ r = .int .i64 (255 - (s.size : Int)) ∧ nx = .int .i64 ((s.next.getD 0 : Nat) : Int) ∧ wr.ownsRow w.heap.size 9 1 v ls.length (sv (mkSs ls)) ∧ readS l n s = R ∧ Below w.heap.size w wr) (fun _ _ r b _ _ => (intOf r).toNat + 1 + (intOf b).toNat)
  case atStart =>
    exact ⟨⟨at_, at_, 1, [], none⟩, [], ⟨by show 1 ≤ 255; omega, by show 1 ≤ 1; omega, rfl, rfl, (fun x h => absurd h (by simp)), (fun v h => by cases h), ha, ha⟩, rfl, rfl, rfl, rfl, World.ownsRow_nil _ _ _ _, HR.out, Below.refl _ _⟩
  case round =>
    obtain ⟨s, ls, hok, rfl, rfl, rfl, rfl, ho, hs, hbe⟩ := hrel
    have KL := Lib.hid (labelAt_any (HB.out.later hbe (Nat.le_refl _)) h47 s.at_ hok.big (255 - (s.size : Int)))
    have hlat := lat_of HL.out s
    have HO := Lib.hid (And.intro ho (And.intro hbe (And.intro hok hs)))
    clear ho hbe hs
    generalize latv l n s.at_ (255 - (s.size : Int)) = q at KL hlat
    have h255 := hok.size
    have h1 := hok.one
    have hbig := hok.big
    have hbel := hok.bel
    clear hok
    cases hlat with
    | bad c r hc h14 h =>
      have hend := readS_end h
      rw [HO.out.2.2.2] at hend
      have KI : ∀ w1 v, Tells w1 v ⟨c, s.at_, true⟩ → Calls Tryz.prog 43 #[v, .iface 34 (.int .i64 14)] w1 fun e w' => e = .returned (.bool false) ∧ w1 = w' := fun w1 v ht => by
        have := Is_told ht hc 14
        rw [show (c == (14 : Int)) = false by simpa using h14] at this
        exact this
      have HE := Lib.hid (And.intro hend KI)
      clear h hend KI
      go_wp2_with fail
      refine KL.out.mono ?_
      rintro e w1 ⟨v1, rfl, t1, b1⟩
      obtain ⟨T, x, rfl⟩ := Tells.held' t1 hc
      have H1 := Lib.hid (And.intro (HE.out.2 w1 _ t1) (And.intro t1 (HO.out.2.1.trans (b1.mono HO.out.2.1.size))))
      clear t1 b1
      go_wp2_with fail
      refine H1.out.1.mono ?_
      rintro e w' ⟨rfl, rfl⟩
      go_wp2_with fail
      rw [HE.out.1]
      exact bodyPost_ret (v := .tuple #[.string ⟨#[]⟩, .int .i64 0, .iface T x]) (by simp [results, Tryz.results83, go_sem]) rfl ⟨_, rfl, H1.out.2.1, H1.out.2.2⟩
    | fin hn h =>
      have hend := readS_end h
      rw [HO.out.2.2.2] at hend
      have hemp : (mkS []).toList.isEmpty = true := by rw [Lib.toList_data, mkS_data]; rfl
      have hnm := HO.out.2.2.1.name
      have hsz1 := HO.out.2.2.1.len
      have hge := sizeL_ge ls
      have hnx := nx_or s.next HO.out.2.2.1.next (s.at_ + 1)
      have HE := Lib.hid (And.intro hend (And.intro hnm (And.intro hnx (And.intro hsz1 hge))))
      clear h hend hnm hsz1 hge hnx
      go_wp2_with fail
      refine KL.out.mono ?_
      rintro e w1 ⟨v1, rfl, t1, b1⟩
      obtain rfl := Tells.none' t1 rfl
      have H1 := Lib.hid (And.intro (own_kept HO.out.1 b1) (HO.out.2.1.trans (b1.mono HO.out.2.1.size)))
      clear t1 b1
      go_wp2_with fail
      refine (Is_nil _ _ _).mono ?_
      rintro e w' ⟨rfl, rfl⟩
      obtain ⟨A', c', rfl, hG⟩ := Gs.of_own H1.out.1
      have KJ := Lib.hid (join_any hG (fun x hx => by have := mem_sizeL ls x hx; have := HE.out.2.2.2.1; omega) (by have := HE.out.2.2.2; omega))
      clear hG
      go_wp2_with fail
      refine KJ.out.mono ?_
      rintro e w2 ⟨rfl, b2⟩
      have H2 := Lib.hid (H1.out.2.trans (b2.mono H1.out.2.size))
      clear b2
      go_wp2_with fail
      refine (or_any (x := ((s.next.getD 0 : Nat) : Int)) (y := (s.at_ : Int) + 1) (by simp) (by simp)).mono ?_
      rintro e w' ⟨rfl, rfl⟩
      rw [show (s.at_ : Int) + 1 = ((s.at_ + 1 : Nat) : Int) by omega, HE.out.2.2.1]
      have H3 := Lib.hid (H2.out.alloc H2.out.size (.cells #[.int .i64 ((s.next.getD 0 : Nat) : Int), .int .i64 ((s.at_ + 1 : Nat) : Int)] 3))
      go_wp2_with fail
      rw [HE.out.1]
      exact bodyPost_ret (v := .tuple #[.string (mkS (joinD ls)), .int .i64 ((s.next.getD (s.at_ + 1) : Nat) : Int), .nilIface]) (by simp [results, Tryz.results83, go_sem]) rfl ⟨_, by rw [← HE.out.2.1]; rfl, Tells.nil _ _ _, H3.out⟩
    | lab x hx hn hsz h =>
      have hon := (readS_on h (show s.size ≤ 255 by omega)).symm.trans HO.out.2.2.2
      have hmk : mkS x ≠ ⟨#[]⟩ := fun e => labOk_ne hx (by rw [← mkS_data x, e])
      have hemp : (mkS x).toList.isEmpty = false := by
        rw [← decide_eq_emptyBytes]
        exact decide_eq_false hmk
      have hxs : (mkS x).size = x.length := mkS_size x
      have hok' : RdOk l n ⟨s.at_ + 1 + x.length, s.below, s.size + 1 + x.length, dotted s.name x, s.next⟩ (ls ++ [x]) := by
        have hk := HO.out.2.2.1
        refine ⟨hsz, by show 1 ≤ s.size + 1 + x.length; omega, ?_, ?_, ?_, hk.next, by show s.at_ + 1 + x.length ≤ _; omega, hk.bel⟩
        · have := hk.len
          show sizeL (ls ++ [x]) + 1 = s.size + 1 + x.length
          rw [sizeL_one]; omega
        · show dotted s.name x = _
          rw [hk.name, dotted_join hk.ne]
        · intro y hy
          rcases List.mem_append.1 hy with hy | hy
          · exact hk.ne y hy
          · obtain rfl := List.mem_singleton.1 hy; exact labOk_ne hx
      have hll : ls.length ≤ 255 := by have := sizeL_ge ls; have := HO.out.2.2.1.len; omega
      have HX := Lib.hid (And.intro hon (And.intro hok' hll))
      clear h hon hmk hx hok' hll
      go_wp2_with fail
      refine KL.out.mono ?_
      rintro e w1 ⟨v1, rfl, t1, b1⟩
      obtain rfl := Tells.none' t1 rfl
      have H1 := Lib.hid (And.intro (own_kept HO.out.1 b1) (HO.out.2.1.trans (b1.mono HO.out.2.1.size)))
      clear t1 b1
      go_wp2_with fail
      refine (Is_nil _ _ _).mono ?_
      rintro e w' ⟨rfl, rfl⟩
      go_wp2_with (at_builtin; refine wpList_append_gs rfl (.tmp 23) (.tmp 25) 167 rfl w.heap.size 9 infoStr rfl (by omega) Tryz.underlying167 _ _ _ rfl (H1.out.1.alloc _) _ 1 1 _ rfl (by exact Gs.lit _ [.string (mkS x)] 1 rfl (by unfold maxLen; omega) _ rfl _) (sv_one [mkS x]) (by have := HX.out.2.2; omega) (by have := H1.out.2.size; simp; omega) ?_; intro v2 w2 o2 g2; have H2 := Lib.hid (And.intro o2 g2); clear o2 g2)
      have hb2 : Below w.heap.size w w2 := (H1.out.2.alloc H1.out.2.size _).grown H2.out.2 (by have := H1.out.2.size; simp; omega) (fun q hq => (H1.out.1.lt q hq).1)
      have o3 : w2.ownsRow w.heap.size 9 1 v2 (ls ++ [x]).length (sv (mkSs (ls ++ [x]))) := by
        rw [List.length_append, sv_snoc]
        exact H2.out.1
      refine ⟨⟨_, ls ++ [x], HX.out.2.1, ?_, rfl, ?_, rfl, o3, HX.out.1, hb2⟩, ?_⟩
      · show Value.int IntKind.i64 ((s.at_ : Int) + (1 + (x.length : Int))) = Value.int IntKind.i64 ((s.at_ + 1 + x.length : Nat) : Int)
        congr 1; omega
      · show Value.int IntKind.i64 (255 - (s.size : Int) - (1 + (x.length : Int))) = Value.int IntKind.i64 (255 - ((s.size + 1 + x.length : Nat) : Int))
        congr 1; omega
      · simp only [intOf]; omega
    | ptr r hn h =>
      have KF := Lib.hid (fun w1 (hb1 : Below w.heap.size w w1) => follow_any (HB.out.later hb1 (Nat.le_refl _)) s.at_ s.below hbig)
      have KI : ∀ w1 v, Tells w1 v ⟨14, s.at_, true⟩ → Calls Tryz.prog 43 #[v, .iface 34 (.int .i64 14)] w1 fun e w' => e = .returned (.bool true) ∧ w1 = w' := fun w1 v ht => Is_told ht (show (14 : Int) ≠ 0 by decide) 14
      obtain ⟨f, hf⟩ : ∃ f, folv l n s.at_ s.below = f := ⟨_, rfl⟩
      have hst := h f hf
      rw [hf] at KF
      by_cases hc : f.2.code = 0
      · rw [if_pos hc] at hst
        have hon := (readS_on hst (show s.size ≤ 255 by omega)).symm.trans HO.out.2.2.2
        have hlt : f.1 < s.below := by
          rcases folv_cases l n s.at_ s.below with ⟨_, e⟩ | ⟨_, _, e⟩ | ⟨_, b, e⟩
          · rw [← hf, e] at hc; cases hc
          · rw [← hf, e] at hc; cases hc
          · rw [← hf, e]; exact b
        have hnx := nx_or s.next HO.out.2.2.1.next (s.at_ + 2)
        have hok' : RdOk l n ⟨f.1, f.1, s.size, s.name, some (s.next.getD (s.at_ + 2))⟩ ls := by
          have hk := HO.out.2.2.1
          refine ⟨hk.size, hk.one, hk.len, hk.name, hk.ne, fun v hv => ?_, by show f.1 ≤ _; omega, by show f.1 ≤ _; omega⟩
          obtain rfl := Option.some.inj hv
          cases hnn : s.next with
          | none => show 2 ≤ s.at_ + 2; omega
          | some q => exact hk.next q hnn
        have HX := Lib.hid (And.intro hon (And.intro hok' (And.intro hnx KI)))
        clear h hon hok' hnx KI hst hf
        obtain ⟨to, ff⟩ := f
        dsimp only at hlt hc
        go_wp2_with fail
        refine KL.out.mono ?_
        rintro e w1 ⟨v1, rfl, t1, b1⟩
        obtain ⟨T, x, rfl⟩ := Tells.held' t1 (show (14 : Int) ≠ 0 by decide)
        have H1 := Lib.hid (And.intro (own_kept HO.out.1 b1) (And.intro (HO.out.2.1.trans (b1.mono HO.out.2.1.size)) (HX.out.2.2.2 w1 _ t1)))
        clear t1 b1
        go_wp2_with fail
        refine H1.out.2.2.mono ?_
        rintro e w' ⟨rfl, rfl⟩
        go_wp2_with fail
        refine (KF.out w1 H1.out.2.1).mono ?_
        rintro e w2 ⟨v2, rfl, t2, b2⟩
        obtain rfl := Tells.none' t2 hc
        have H2 := Lib.hid (And.intro (own_kept H1.out.1 b2) (H1.out.2.1.trans (b2.mono H1.out.2.1.size)))
        clear t2 b2
        go_wp2_with fail
        refine (or_any (x := ((s.next.getD 0 : Nat) : Int)) (y := (s.at_ : Int) + 2) (by simp) (by simp)).mono ?_
        rintro e w' ⟨rfl, rfl⟩
        rw [show (s.at_ : Int) + 2 = ((s.at_ + 2 : Nat) : Int) by omega, HX.out.2.2.1]
        have H3 := Lib.hid (And.intro (H2.out.1.alloc (.cells #[.int .i64 ((s.next.getD 0 : Nat) : Int), .int .i64 ((s.at_ + 2 : Nat) : Int)] 3)) (H2.out.2.alloc H2.out.2.size (.cells #[.int .i64 ((s.next.getD 0 : Nat) : Int), .int .i64 ((s.at_ + 2 : Nat) : Int)] 3)))
        go_wp2_with fail
        refine ⟨⟨_, ls, HX.out.2.1, rfl, rfl, rfl, rfl, H3.out.1, HX.out.1, H3.out.2⟩, ?_⟩
        simp only [intOf]; omega
      · rw [if_neg hc] at hst
        have hend := readS_end hst
        rw [HO.out.2.2.2] at hend
        have hff : f.2 = ⟨f.2.code, s.at_, true⟩ := by
          rcases folv_cases l n s.at_ s.below with ⟨_, e⟩ | ⟨_, _, e⟩ | ⟨_, b, e⟩
          · rw [← hf, e]
          · rw [← hf, e]
          · rw [← hf, e] at hc; exact absurd rfl hc
        have HX := Lib.hid (And.intro hend (And.intro hff KI))
        clear h KI hst hf hend hff
        go_wp2_with fail
        refine KL.out.mono ?_
        rintro e w1 ⟨v1, rfl, t1, b1⟩
        obtain ⟨T, x, rfl⟩ := Tells.held' t1 (show (14 : Int) ≠ 0 by decide)
        have H1 := Lib.hid (And.intro (own_kept HO.out.1 b1) (And.intro (HO.out.2.1.trans (b1.mono HO.out.2.1.size)) (HX.out.2.2 w1 _ t1)))
        clear t1 b1
        go_wp2_with fail
        refine H1.out.2.2.mono ?_
        rintro e w' ⟨rfl, rfl⟩
        go_wp2_with fail
        refine (KF.out w1 H1.out.2.1).mono ?_
        rintro e w2 ⟨v2, rfl, t2, b2⟩
        obtain ⟨T2, x2, rfl⟩ := Tells.held' t2 hc
        rw [HX.out.2.1] at t2
        have H2 := Lib.hid (And.intro t2 (H1.out.2.1.trans (b2.mono H1.out.2.1.size)))
        clear t2 b2
        go_wp2_with fail
        rw [HX.out.1]
        exact bodyPost_ret (v := .tuple #[.string ⟨#[]⟩, .int .i64 0, .iface T2 x2]) (by simp [results, Tryz.results83, go_sem]) rfl ⟨_, rfl, H2.out.1, H2.out.2⟩

set_option maxHeartbeats 1000000 in
theorem Read_any {A : Option Addr} {n c : Nat} {l : List UInt8} {w : World} (hb : Bs w A n c l) (h47 : n ≤ 140737488350000) (at_ : Int) (ha : at_ ≤ 9223372036854775807) : Calls Tryz.prog 83 #[.slice A n c, .int .i64 at_] w (ReadR (readv l n at_) w) := by
  unfold readv
  by_cases hneg : at_ < 0
  · rw [if_pos hneg]
    have k1 := part_any hb at_ 1 (by omega) (by omega) h47
    rw [show needOf n at_ 1 = ⟨1, 0, false⟩ from if_pos (.inl hneg)] at k1
    have K1 := Lib.hid k1
    clear k1 hb
    have KLA : ∀ room : Int, Calls Tryz.prog 106 #[.slice A n c, .int .i64 at_, .int .i64 room] w fun e w' => ∃ v, e = .returned (.tuple #[.string ⟨#[]⟩, v]) ∧ Tells w' v ⟨1, 0, false⟩ ∧ Below w.heap.size w w' := fun room => by
      go_enter Tryz.func106, Tryz.ntmps106
      go_wp2_with fail
      refine K1.out.mono ?_
      rintro e w1 ⟨A1, n1, c1, v1, rfl, h1, h2, h3⟩
      obtain ⟨T, x, rfl⟩ := Tells.held' h2 (by decide)
      have H1 := Lib.hid (And.intro h2 h3)
      clear h1 h2 h3
      go_wp2_with fail
      go_ret2
      exact ⟨_, rfl, H1.out.1, H1.out.2⟩
    have KL := Lib.hid KLA
    clear KLA
    go_enter Tryz.func83, Tryz.ntmps83
    go_wp2_with fail
    go_loop [1, 8] (fun a r => a = .int .i64 at_ ∧ r = .int .i64 254) (fun _ _ => 0)
    case atStart => exact ⟨rfl, rfl⟩
    case round =>
      obtain ⟨rfl, rfl⟩ := hrel
      go_wp2_with fail
      refine (KL.out _).mono ?_
      rintro e w1 ⟨v1, rfl, t1, b1⟩
      have hI := Is_told t1 (show (1 : Int) ≠ 0 by decide) 14
      obtain ⟨T, x, rfl⟩ := Tells.held' t1 (by decide)
      have H1 := Lib.hid (And.intro hI (And.intro t1 b1))
      clear t1 b1 hI
      go_wp2_with fail
      refine H1.out.1.mono ?_
      rintro e w' ⟨rfl, rfl⟩
      go_wp2_with fail
      exact bodyPost_ret (v := .tuple #[.string ⟨#[]⟩, .int .i64 0, .iface T x]) (by simp [results, Tryz.results83, go_sem]) rfl ⟨_, rfl, H1.out.2.1, H1.out.2.2⟩
  · rw [if_neg hneg]
    obtain ⟨a, rfl⟩ := Int.eq_ofNat_of_zero_le (show 0 ≤ at_ by omega)
    rw [Int.toNat_natCast]
    exact read_from hb h47 a (by omega)
end Go.Proofs.YtbikifaadpijnaaGreatDoor

namespace Go.Proofs.YtbikifaadpijnaaGreatDoor
open Go.RowKit
set_option maxRecDepth 100000

theorem strCells_bv (s : ByteArray) : Lib.strCells s = bv s.data.toList := rfl
theorem wireL_snoc (ls : List (List UInt8)) (x : List UInt8) : wireL (ls ++ [x]) = wireL ls ++ [UInt8.ofNat x.length] ++ x := by
  rw [wireL_append]
  simp [wireL]
set_option maxHeartbeats 2000000 in
theorem write_any (s : ByteArray) (hs : s.size ≤ 1000000) {w : World} (hE : Env w) : Calls Tryz.prog 59 #[.string s] w fun e w' =>
    ∃ A c v, e = .returned (.tuple #[.slice A (writev s.data.toList).length c, v]) ∧ w'.ownsRow w.heap.size 5 1 (.slice A (writev s.data.toList).length c) (writev s.data.toList).length (bv (writev s.data.toList)) ∧ Tells w' v (writee s.data.toList) ∧ Below w.heap.size w w' := by
  have KR := Lib.hid (right_any s hs hE)
  unfold writev writee
  by_cases hr : rightN s.data.toList
  · rw [decide_eq_true hr] at KR
    rw [if_pos hr, if_pos hr]
    unfold writeB
    have KL := Lib.hid (fun w1 (hb : Below w.heap.size w w1) => labels_any s hs (hE.later hb (Nat.le_refl _)))
    obtain ⟨ls, hls⟩ : ∃ ls, labsN s.data.toList = ls := ⟨_, rfl⟩
    unfold rightN at hr
    rw [hls] at hr KL ⊢
    obtain ⟨hr1, hr2⟩ := hr
    have hge := sizeL_ge ls
    have HR := Lib.hid hr1
    have HZ := Lib.hid (And.intro hr2 hge)
    obtain ⟨i0, hi, hz0, hz1, hz2⟩ := info_parts info5
    have HI := Lib.hid (And.intro hi (And.intro hz0 (And.intro hz1 hz2)))
    clear hr1 hls hE hi hz0 hz1 hz2 hr2 hge
    go_enter Tryz.func59, Tryz.ntmps59
    go_wp2_with fail
    refine KR.out.mono ?_
    rintro e w1 ⟨rfl, b1⟩
    have H1 := Lib.hid b1
    clear b1
    go_wp2_with fail
    refine (KL.out w1 H1.out).mono ?_
    rintro e w2 ⟨A, n, c, rfl, hG, b2⟩
    have hn : n = ls.length := by have := hG.len; unfold sv mkSs at this; rw [List.length_map, List.length_map] at this; exact this.symm
    subst hn
    have hcap := hG.cap
    have hmax := hG.max
    unfold maxLen at hmax
    have H2 := Lib.hid (And.intro hG (H1.out.trans (b2.mono H1.out.size)))
    clear hG b2
    go_wp2_with fail
    go_loopw [4, 14] (fun b i wr => ∃ k : Nat, k ≤ ls.length ∧ i = .int .i64 k ∧ wr.ownsRow w2.heap.size 5 1 b (wireL (ls.take k)).length (bv (wireL (ls.take k))) ∧ Below w2.heap.size w2 wr) (fun _ i _ => ls.length - (intOf i).toNat)
    case atStart => exact ⟨0, Nat.zero_le _, rfl, World.ownsRow_nil _ _ _ _, Below.refl _ _⟩
    case round =>
      obtain ⟨k, hk, rfl, ho, hbe⟩ := hrel
      have hwl : (wireL (ls.take k)).length ≤ 255 := by
        have h1 := sizeL_append (ls.take k) (ls.drop k)
        rw [List.take_append_drop] at h1
        rw [wireL_length]
        have := HZ.out.1
        omega
      by_cases hlt : k < ls.length
      · obtain ⟨x, hxk⟩ : ∃ x, ls[k]? = some x := ⟨ls[k]'hlt, List.getElem?_eq_getElem _⟩
        obtain ⟨b, o, rfl, h1⟩ := (H2.out.1.later hbe (Nat.le_refl _)).get (k := k) (x := .string (mkS x)) (by unfold sv mkSs; rw [List.map_map, List.getElem?_map, hxk]; rfl)
        have hxo := HR.out x (List.mem_of_getElem? hxk)
        have hx63 := hxo.2.2
        have hxs : (mkS x).size = x.length := mkS_size x
        have hsn : wireL (ls.take (k + 1)) = wireL (ls.take k) ++ [UInt8.ofNat x.length] ++ x := by rw [List.take_add_one, hxk]; exact wireL_snoc _ _
        have HS := Lib.hid hsn
        have HO := Lib.hid (And.intro ho hbe)
        clear ho hbe hxo hsn hxk
        generalize hwk : wireL (ls.take k) = wk at HO HS hwl
        clear hwk
        go_wp2_with (first
          | (at_builtin; refine wpList_append_bs rfl (.tmp 18) (.tmp 22) 22 rfl w2.heap.size 5 info5 Tryz.underlying22 _ wk.length wk rfl (HO.out.1.alloc _) _ 1 1 [UInt8.ofNat x.length] rfl (by exact Bs.lit _ [UInt8.ofNat x.length] 1 rfl (by unfold maxLen; omega) _ (by simp [bv] <;> omega) _) (by omega) (by have := HO.out.2.size; simp; omega) ?_; intro v3 w3 o3 g3 n3 m3; have H3 := Lib.hid (And.intro o3 g3); clear o3 g3 n3 m3)
          | (at_builtin; refine Lib.wpList_append_own_string _ rfl (.tmp 24) (.tmp 25) 22 9 rfl w2.heap.size 5 i0 Tryz.underlying22 Tryz.underlying9 HI.out.1 HI.out.2.1 HI.out.2.2.1 HI.out.2.2.2 _ _ _ rfl H3.out.1 (mkS x) rfl (by unfold maxLen; simp only [hxs]; omega) (by simp only [hxs]; omega) (by have := HO.out.2.size; have := H3.out.2.size; simp at this; omega) ?_; intro v4 w4 o4 g4 _; have H4 := Lib.hid (And.intro o4 g4); clear o4 g4))
        have hb3 : Below w2.heap.size w2 w3 := (HO.out.2.alloc HO.out.2.size _).grown H3.out.2 (by have := HO.out.2.size; simp; omega) (fun q hq => (HO.out.1.lt q hq).1)
        have hb4 : Below w2.heap.size w2 w4 := hb3.grown H4.out.2 hb3.size (fun q hq => (H3.out.1.lt q hq).1)
        refine ⟨⟨k + 1, hlt, by go_num, ?_, hb4⟩, by simp [intOf]; omega⟩
        have o4 := H4.out.1
        rw [strCells_bv, mkS_data, ← bv_append, hxs] at o4
        rw [HS.out]
        exact owns_n (by simp; omega) o4
      · obtain rfl : k = ls.length := by omega
        rw [List.take_of_length_le (Nat.le_refl _)] at ho hwl
        have HO := Lib.hid (And.intro ho hbe)
        clear ho hbe
        go_wp2_with (at_builtin; refine wpList_append_bs rfl (.tmp 28) (.tmp 29) 22 rfl w2.heap.size 5 info5 Tryz.underlying22 _ _ (wireL ls) rfl (HO.out.1.alloc _) _ 1 1 [0] rfl (by exact Bs.lit _ [0] 1 rfl (by unfold maxLen; omega) _ rfl _) (by omega) (by have := HO.out.2.size; simp; omega) ?_; intro v3 w3 o3 g3 n3 m3; have H3 := Lib.hid (And.intro o3 g3); clear o3 g3 n3 m3)
        have hb3 : Below w2.heap.size w2 w3 := (HO.out.2.alloc HO.out.2.size _).grown H3.out.2 (by have := HO.out.2.size; simp; omega) (fun q hq => (HO.out.1.lt q hq).1)
        have o3 : w3.ownsRow w2.heap.size 5 1 v3 (wireL ls ++ [0]).length (bv (wireL ls ++ [0])) := owns_n (by simp) H3.out.1
        obtain ⟨A', c', rfl, _⟩ := Bs.of_own o3
        have H4 := Lib.hid (And.intro (owns_base o3 H2.out.2.size) (H2.out.2.trans (hb3.mono H2.out.2.size)))
        clear o3 hb3
        go_ret2
        exact ⟨_, _, _, rfl, H4.out.1, Tells.nil _ _ _, H4.out.2⟩
  · rw [decide_eq_false hr] at KR
    rw [if_neg hr, if_neg hr]
    clear hr hE
    go_enter Tryz.func59, Tryz.ntmps59
    go_wp2_with fail
    refine KR.out.mono ?_
    rintro e w1 ⟨rfl, b1⟩
    have H1 := Lib.hid b1
    clear b1
    go_wp2_with fail
    go_ret2
    exact ⟨none, 0, _, rfl, World.ownsRow_nil _ _ _ _, Tells.bare _ 13 (by decide) 0, H1.out⟩

theorem mkS_append (a b : List UInt8) : mkS a ++ mkS b = mkS (a ++ b) := by
  apply ByteArray.ext
  simp [mkS]
theorem drop_dot {a z : List UInt8} (h : z.length < a.length) : a.drop (a.length - (z.length + 1)) = 46 :: z ↔ a.drop (a.length - z.length) = z ∧ a[a.length - z.length - 1]? = some 46 := by
  obtain ⟨k, hk⟩ : ∃ k, a.length = z.length + 1 + k := ⟨a.length - z.length - 1, by omega⟩
  rw [show a.length - (z.length + 1) = k by omega, show a.length - z.length = k + 1 by omega, show k + 1 - 1 = k by omega]
  have hlt : k < a.length := by omega
  rw [List.drop_eq_getElem_cons hlt, List.getElem?_eq_getElem hlt, List.cons.injEq, Option.some.injEq]
  exact And.comm
/-- A name under a zone. -/
theorem under_iff (a z : List UInt8) : underN a z ↔ z = [] ∨ a = z ∨ (z.length + 1 ≤ a.length ∧ a.drop (a.length - (z.length + 1)) = 46 :: z) := by
  unfold underN
  constructor
  · rintro (h | h | ⟨h1, h2, h3⟩)
    · exact .inl h
    · exact .inr (.inl h)
    · exact .inr (.inr ⟨h1, (drop_dot h1).2 ⟨h2, h3⟩⟩)
  · rintro (h | h | ⟨h1, h2⟩)
    · exact .inl h
    · exact .inr (.inl h)
    · exact .inr (.inr ⟨h1, ((drop_dot h1).1 h2).1, ((drop_dot h1).1 h2).2⟩)
end Go.Proofs.YtbikifaadpijnaaGreatDoor

namespace Go.Proofs.YtbikifaadpijnaaGreatDoor
open Go.RowKit
set_option maxRecDepth 100000

theorem nmRun_step {l out : List UInt8} {k : Nat} {c : UInt8} (hk : l[k]? = some c) (h60 : out.length < 60) : nmRun (l.drop k) out = nmRun (l.drop (k + 1)) (nmStep out c) := by
  rw [drop_at hk]
  conv => lhs; unfold nmRun
  rw [if_neg (by omega)]
theorem last_at {out : List UInt8} {m : Nat} (h : out.length = m + 1) : ∃ y, out[m]? = some y ∧ out.getLast? = some y := by
  have h1 : out[m]? = some (out[m]'(by omega)) := List.getElem?_eq_getElem _
  refine ⟨_, h1, ?_⟩
  rw [List.getLast?_eq_getElem?, show out.length - 1 = m by omega]
  exact h1
set_option maxHeartbeats 4000000 in
theorem playName_any (s : ByteArray) (hs : s.size ≤ 9223372036854775807) (w : World) : Calls Tryz.prog 47 #[.string s] w fun e w' => e = .returned (.string (mkS (playN s.data.toList))) ∧ Below w.heap.size w w' := by
  have HL := Lib.hid (Lib.size_eq s).symm
  obtain ⟨R, hR⟩ : ∃ R, playN s.data.toList = R := ⟨_, rfl⟩
  rw [hR]
  unfold playN at hR
  have HR := Lib.hid hR
  clear hR
  go_enter Tryz.func47, Tryz.ntmps47
  go_wp2_with fail
  go_loopw [3, 4] (fun v i wr => ∃ (k : Nat) (out : List UInt8) (n : Nat), k ≤ s.size ∧ i = .int .i64 k ∧ out.length = n ∧ n ≤ 60 ∧ wr.ownsRow w.heap.size 5 1 v n (bv out) ∧ nmRun s.data.toList [] = nmRun (s.data.toList.drop k) out ∧ Below w.heap.size w wr) (fun _ i _ => s.size - (intOf i).toNat)
  case atStart => exact ⟨0, [], 0, Nat.zero_le _, rfl, rfl, by decide, World.ownsRow_nil _ _ _ _, rfl, Below.refl _ _⟩
  case round =>
    obtain ⟨k, out, n, hk, rfl, hn, h60, ho, hrun, hbe⟩ := hrel
    obtain ⟨A, c, rfl, hB⟩ := Bs.of_own ho
    by_cases hgo : k < s.size ∧ n < 60
    · obtain ⟨hlt, hl60⟩ := hgo
      obtain ⟨x, hx, hsk⟩ := str_at (s := s) (i := k) hlt
      have hst := nmRun_step hx (by rw [hn]; exact hl60)
      have hxl := x.toNat_lt
      have HO := Lib.hid (And.intro ho (And.intro (hrun.trans hst) hbe))
      clear ho hrun hst hbe hx
      have happ : ∀ (v3 : Value) (w3 : World) (u : Value), u = .int .u8 x.toNat → nmStep out x = out ++ [x] → w3.ownsRow w.heap.size 5 1 v3 (n + 1) (bv (out ++ [x])) → (wr.alloc (.cells #[u] 5)).grownBy w3 (Value.ownBlock (.slice A n c)) → (∃ (k' : Nat) (out' : List UInt8) (n' : Nat), k' ≤ s.size ∧ Value.int IntKind.i64 ((k : Int) + 1) = .int .i64 k' ∧ out'.length = n' ∧ n' ≤ 60 ∧ w3.ownsRow w.heap.size 5 1 v3 n' (bv out') ∧ nmRun s.data.toList [] = nmRun (s.data.toList.drop k') out' ∧ Below w.heap.size w w3) := fun v3 w3 u hu hstp o3 g3 => by
        refine ⟨k + 1, out ++ [x], n + 1, hlt, by congr 1, by simp [hn], by omega, o3, by rw [← hstp]; exact HO.out.2.1, ?_⟩
        exact (HO.out.2.2.alloc HO.out.2.2.size _).grown g3 (by have := HO.out.2.2.size; simp; omega) (fun q hq => (HO.out.1.lt q hq).1)
      have HA := Lib.hid happ
      clear happ
      by_cases h46 : x.toNat = 46
      · have hx46 : x = 46 := UInt8.toNat_inj.1 h46
        by_cases h0 : n = 0
        · subst h0
          have hno : nmStep out x = out := by
            unfold nmStep
            rw [if_neg]
            rintro (⟨_, h, _⟩ | h)
            · exact h (List.eq_nil_of_length_eq_zero hn)
            · exact h.2.2.1 h46
          have HN := Lib.hid hno
          have HNN := Lib.hid hn
          clear hno hx46 hB hn
          go_wp2_with fail
          refine ⟨⟨k + 1, out, 0, hlt, by go_num, HNN.out, h60, HO.out.1, by rw [HO.out.2.1, HN.out], HO.out.2.2⟩, by simp [intOf]; omega⟩
        · obtain ⟨m, rfl⟩ : ∃ m, n = m + 1 := ⟨n - 1, by omega⟩
          obtain ⟨y, hy, hlast⟩ := last_at hn
          obtain ⟨b, off, rfl, hc⟩ := hB.here (by omega)
          have hcy := hc m y hy
          clear hc hB h0
          by_cases hy46 : y.toNat = 46
          · have hno : nmStep out x = out := by
              unfold nmStep
              rw [if_neg]
              rintro (⟨_, _, h⟩ | h)
              · exact h (by rw [hlast, UInt8.toNat_inj.1 (hy46.trans (show 46 = (46 : UInt8).toNat from rfl))])
              · exact h.2.2.1 h46
            have HN := Lib.hid hno
            have HNN := Lib.hid hn
            clear hno hx46 hlast hy hn
            go_wp2_with fail
            refine ⟨⟨k + 1, out, m + 1, hlt, by go_num, HNN.out, h60, HO.out.1, by rw [HO.out.2.1, HN.out], HO.out.2.2⟩, by simp [intOf]; omega⟩
          · have hyes : nmStep out x = out ++ [x] := by
              unfold nmStep
              rw [if_pos (.inl ⟨hx46, fun e => by rw [e] at hn; simp at hn, fun e => by rw [hlast] at e; exact hy46 (by rw [Option.some.inj e]; rfl)⟩)]
            have hu : Value.int IntKind.u8 46 = .int .u8 (x.toNat : Int) := by rw [h46]; rfl
            have HN := Lib.hid hyes
            have HNN := Lib.hid hn
            have HU := Lib.hid hu
            have hy46' : ((y.toNat : Int) != 46) = true := by rw [bne_iff_ne]; omega
            clear hyes hx46 hlast hy hn hy46 hu
            go_wp2_with (at_builtin; refine wpList_append_bs rfl (.tmp 58) (.tmp 60) 22 rfl w.heap.size 5 info5 Tryz.underlying22 _ (m + 1) out rfl (HO.out.1.alloc _) _ 1 1 [x] rfl (by exact Bs.lit _ [x] 1 rfl (by unfold maxLen; omega) _ (by rw [HU.out]; rfl) _) (by omega) (by have := HO.out.2.2.size; simp; omega) ?_; intro v3 w3 o3 g3 n3 m3; have H3 := Lib.hid (And.intro o3 g3); clear o3 g3 n3 m3)
            refine ⟨HA.out v3 w3 _ HU.out HN.out H3.out.1 H3.out.2, by simp [intOf]; omega⟩
      · by_cases hsg : sign x
        · have hyes : nmStep out x = out ++ [x] := by
            unfold nmStep
            rw [if_pos (.inr hsg)]
          have HN := Lib.hid hyes
          have HNN := Lib.hid hn
          clear hyes hn hB
          unfold sign at hsg
          have hb46 : ((x.toNat : Int) == 46) = false := by rw [beq_eq_false_iff_ne]; omega
          have hn46 : ((x.toNat : Int) != 46) = true := by rw [bne_iff_ne]; omega
          have h32 : 32 < x.toNat := by omega
          have h127 : x.toNat < 127 := by omega
          rcases (show x.toNat < 65 ∨ ¬ x.toNat < 65 ∧ 90 < x.toNat by omega) with h65 | ⟨h65, h90⟩
          all_goals
            clear hsg h46
            go_wp2_with (at_builtin; refine wpList_append_bs rfl (.tmp 58) (.tmp 60) 22 rfl w.heap.size 5 info5 Tryz.underlying22 _ n out rfl (HO.out.1.alloc _) _ 1 1 [x] rfl (by exact Bs.lit _ [x] 1 rfl (by unfold maxLen; omega) _ rfl _) (by omega) (by have := HO.out.2.2.size; simp; omega) ?_; intro v3 w3 o3 g3 n3 m3; have H3 := Lib.hid (And.intro o3 g3); clear o3 g3 n3 m3)
            refine ⟨HA.out v3 w3 _ rfl HN.out H3.out.1 H3.out.2, by simp [intOf]; omega⟩
        · have hno : nmStep out x = out := by
            unfold nmStep
            rw [if_neg]
            rintro (⟨h, _⟩ | h)
            · exact h46 (by rw [h]; rfl)
            · exact hsg h
          have HN := Lib.hid hno
          have HNN := Lib.hid hn
          clear hno hn hB
          unfold sign at hsg
          have hb46 : ((x.toNat : Int) == 46) = false := by rw [beq_eq_false_iff_ne]; omega
          have hn46 : ((x.toNat : Int) != 46) = true := by rw [bne_iff_ne]; omega
          rcases (show x.toNat ≤ 32 ∨ (32 < x.toNat ∧ 127 ≤ x.toNat) ∨ (32 < x.toNat ∧ x.toNat < 127 ∧ 65 ≤ x.toNat ∧ x.toNat ≤ 90) by omega) with h1 | ⟨h1, h2⟩ | ⟨h1, h2, h3, h4⟩
          all_goals
            clear hsg h46
            go_wp2_with fail
            refine ⟨⟨k + 1, out, n, hlt, by go_num, HNN.out, h60, HO.out.1, by rw [HO.out.2.1, HN.out], HO.out.2.2⟩, by simp [intOf]; omega⟩
    · have hend : R = trimDot out := by
        rw [← HR.out, hrun]
        by_cases hks : k < s.size
        · rw [nmRun_full (by omega)]
        · rw [List.drop_eq_nil_of_le (by rw [HL.out]; omega)]
          rfl
      have hcase : ¬ k < s.size ∨ (k < s.size ∧ n = 60) := by omega
      have HE := Lib.hid (And.intro hend hbe)
      clear hend hbe hgo hrun ho
      by_cases h0 : n = 0
      · subst h0
        obtain rfl := List.eq_nil_of_length_eq_zero hn
        have hcv := hB.convert (P := Tryz.prog) 22 5 9 Tryz.underlying22 Tryz.underlying5 Tryz.underlying9
        have hlt : ¬ k < s.size := by omega
        clear hcase hB
        go_wp2_with fail
        go_ret
        rw [HE.out.1]
        exact ⟨rfl, HE.out.2⟩
      · obtain ⟨m, rfl⟩ : ∃ m, n = m + 1 := ⟨n - 1, by omega⟩
        obtain ⟨y, hy, hlast⟩ := last_at hn
        obtain ⟨b, off, rfl, hc⟩ := hB.here (by omega)
        have hcy := hc m y hy
        have hcap := hB.cap
        clear hc h0
        by_cases hy46 : y.toNat = 46
        · have htr : trimDot out = out.take m := by
            unfold trimDot
            rw [if_pos (by rw [hlast, UInt8.toNat_inj.1 (hy46.trans (show 46 = (46 : UInt8).toNat from rfl))]), List.dropLast_eq_take, hn, Nat.add_sub_cancel]
          have hB2 := hB.cut (i := 0) (k := m) (by omega) (A' := some ⟨b, off, none⟩) (fun _ => rfl) (fun h => h)
          rw [List.drop_zero, Nat.sub_zero] at hB2
          have hcv := hB2.convert (P := Tryz.prog) 22 5 9 Tryz.underlying22 Tryz.underlying5 Tryz.underlying9
          have HT := Lib.hid htr
          clear hB hB2 htr hy hlast
          rcases hcase with hks | ⟨hks, hm⟩
          · go_wp2_with fail
            go_ret
            rw [HE.out.1, HT.out]
            exact ⟨rfl, HE.out.2⟩
          · obtain rfl : m = 59 := by omega
            go_wp2_with fail
            go_ret
            rw [HE.out.1, HT.out]
            exact ⟨rfl, HE.out.2⟩
        · have htr : trimDot out = out := by
            unfold trimDot
            rw [if_neg (fun e => by rw [hlast] at e; exact hy46 (by rw [Option.some.inj e]; rfl))]
          have hcv := hB.convert (P := Tryz.prog) 22 5 9 Tryz.underlying22 Tryz.underlying5 Tryz.underlying9
          have hb46 : ((y.toNat : Int) == 46) = false := by rw [beq_eq_false_iff_ne]; omega
          have HT := Lib.hid htr
          clear hB htr hy hlast hy46
          rcases hcase with hks | ⟨hks, hm⟩
          · go_wp2_with fail
            go_ret
            rw [HE.out.1, HT.out]
            exact ⟨rfl, HE.out.2⟩
          · obtain rfl : m = 59 := by omega
            go_wp2_with fail
            go_ret
            rw [HE.out.1, HT.out]
            exact ⟨rfl, HE.out.2⟩
end Go.Proofs.YtbikifaadpijnaaGreatDoor

namespace Go.Proofs.YtbikifaadpijnaaGreatDoor
open Go.RowKit
set_option maxRecDepth 100000

theorem str_eq_lit {s : ByteArray} {l : List UInt8} (h : s.data.toList = l) : (s.toList == l) = true := by
  rw [Lib.toList_data, h]
  exact beq_self_eq_true l
theorem ReadR.fine {x : List UInt8} {k : Nat} {w w' : World} {e : Ending} (h : ReadR (.ok x k) w e w') : e = .returned (.tuple #[.string (mkS x), .int .i64 (k : Nat), .nilIface]) ∧ Below w.heap.size w w' := by
  obtain ⟨v, rfl, t, b⟩ := h
  obtain rfl := Tells.none' t rfl
  exact ⟨rfl, b⟩
theorem ReadR.no {c : Int} {a : Nat} {w w' : World} {e : Ending} (h : ReadR (.bad c a) w e w') (hc : c ≠ 0) : ∃ T x, e = .returned (.tuple #[.string ⟨#[]⟩, .int .i64 0, .iface T x]) ∧ Tells w' (.iface T x) ⟨c, a, true⟩ ∧ Below w.heap.size w w' := by
  obtain ⟨v, rfl, t, b⟩ := h
  obtain ⟨T, x, rfl⟩ := Tells.held' t hc
  exact ⟨T, x, rfl, t, b⟩
theorem read_fine {A : Option Addr} {n c : Nat} {l : List UInt8} {w : World} (hb : Bs w A n c l) (h47 : n ≤ 140737488350000) (at_ : Int) (ha : at_ ≤ 9223372036854775807) {x : List UInt8} {k : Nat} (h : readv l n at_ = .ok x k) : Calls Tryz.prog 83 #[.slice A n c, .int .i64 at_] w fun e w' => e = .returned (.tuple #[.string (mkS x), .int .i64 (k : Nat), .nilIface]) ∧ Below w.heap.size w w' := by
  have K := Read_any hb h47 at_ ha
  rw [h] at K
  exact K.mono fun _ _ h => h.fine
theorem read_no {A : Option Addr} {n c : Nat} {l : List UInt8} {w : World} (hb : Bs w A n c l) (h47 : n ≤ 140737488350000) (at_ : Int) (ha : at_ ≤ 9223372036854775807) {cd : Int} {k : Nat} (h : readv l n at_ = .bad cd k) (hc : cd ≠ 0) : Calls Tryz.prog 83 #[.slice A n c, .int .i64 at_] w fun e w' => ∃ T x, e = .returned (.tuple #[.string ⟨#[]⟩, .int .i64 0, .iface T x]) ∧ Tells w' (.iface T x) ⟨cd, k, true⟩ ∧ Below w.heap.size w w' := by
  have K := Read_any hb h47 at_ ha
  rw [h] at K
  exact K.mono fun _ _ h => h.no hc
end Go.Proofs.YtbikifaadpijnaaGreatDoor

namespace Go.Proofs.YtbikifaadpijnaaGreatDoor
open Go.RowKit
set_option maxRecDepth 100000

set_option maxHeartbeats 1000000 in
theorem ref_label (s : ByteArray) (hs : s.size ≤ 1000000) (w : World) : Calls Tryz.prog 88 #[.string s] w fun e w' => e = .returned (.bool (decide (labOk s.data.toList))) ∧ w = w' := by
  have HL := Lib.hid (Lib.size_eq s).symm
  go_enter Tryz.func88, Tryz.ntmps88
  go_wp2_with fail
  go_loop [3] (fun i => ∃ k : Nat, k ≤ s.size ∧ i = .int .i64 k ∧ ∀ (j : Nat) (x : UInt8), j < k → s.data.toList[j]? = some x → sign x) (fun i => s.size - (intOf i).toNat)
  case atStart => exact ⟨0, Nat.zero_le _, rfl, fun j x h => absurd h (by omega)⟩
  case round =>
    obtain ⟨k, hk, rfl, hall⟩ := hrel
    by_cases hlt : k < s.size
    · obtain ⟨x, hx, hsk⟩ := str_at (s := s) (i := k) hlt
      have hxl := x.toNat_lt
      have HX := Lib.hid (And.intro hx hall)
      clear hx hall
      by_cases hsg : sign x
      · have HS := Lib.hid hsg
        unfold sign at hsg
        obtain ⟨d1, d2, d3, d4⟩ := hsg
        have e1 : ((x.toNat : Int) == 46) = false := by rw [beq_eq_false_iff_ne]; omega
        rcases (show ¬ 65 ≤ x.toNat ∨ (65 ≤ x.toNat ∧ ¬ x.toNat ≤ 90) by omega) with d5 | ⟨d5, d6⟩
        all_goals
          clear d3 d4
          go_wp2_with fail
          go_round
          case rel =>
            refine ⟨k + 1, hlt, by go_num, fun j y hj hy => ?_⟩
            by_cases hjk : j = k
            · subst hjk
              rw [HX.out.1] at hy
              obtain rfl := Option.some.inj hy
              exact HS.out
            · exact HX.out.2 j y (by omega) hy
          case measure => simp [intOf]; omega
      · have hno : decide (labOk s.data.toList) = false := decide_eq_false (fun h => hsg (h.1 x (List.mem_of_getElem? HX.out.1)))
        have HN := Lib.hid hno
        unfold sign at hsg
        rcases (show x.toNat < 33 ∨ (¬ x.toNat < 33 ∧ 126 < x.toNat) ∨ (¬ x.toNat < 33 ∧ ¬ 126 < x.toNat ∧ x.toNat = 46) ∨ (¬ x.toNat < 33 ∧ ¬ 126 < x.toNat ∧ x.toNat ≠ 46 ∧ 65 ≤ x.toNat ∧ x.toNat ≤ 90) by omega) with d1 | ⟨d1, d2⟩ | ⟨d1, d2, d3⟩ | ⟨d1, d2, d3, d4, d5⟩
        all_goals
          clear hsg hno
          go_wp2_with fail
          go_ret
          rw [HN.out]
          exact ⟨rfl, rfl⟩
    · obtain rfl : k = s.size := by omega
      have e1 : decide (labOk s.data.toList) = (decide (1 ≤ (s.size : Int)) && decide ((s.size : Int) ≤ 63)) := by
        rw [Bool.eq_iff_iff, decide_eq_true_iff, Bool.and_eq_true, decide_eq_true_iff, decide_eq_true_iff]
        unfold labOk
        rw [HL.out]
        constructor
        · rintro ⟨_, h2, h3⟩; omega
        · rintro ⟨h2, h3⟩
          refine ⟨fun c hc => ?_, by omega, by omega⟩
          obtain ⟨j, hj⟩ := List.mem_iff_getElem?.1 hc
          exact hall j c (by have := (List.getElem?_eq_some_iff.1 hj).1; rw [HL.out] at this; exact this) hj
      have E1 := Lib.hid e1
      clear hall e1
      by_cases h1 : 1 ≤ s.size
      · go_wp2_with fail
        go_ret
        refine ⟨?_, rfl⟩
        rw [E1.out, decide_eq_true (show (1 : Int) ≤ (s.size : Int) by omega), Bool.true_and]
        rfl
      · go_wp2_with fail
        go_ret
        refine ⟨?_, rfl⟩
        rw [E1.out, decide_eq_false (show ¬ (1 : Int) ≤ (s.size : Int) by omega), Bool.false_and]
        rfl

theorem ref_labels (s : ByteArray) (hs : s.size ≤ 10000) (w : World) : Calls Tryz.prog 100 #[.string s] w fun e w' =>
    ∃ A n c, e = .returned (.slice A n c) ∧ Gs w' A n c (sv (mkSs (labsN s.data.toList))) ∧ Below w.heap.size w w' := by
  by_cases h0 : s.size = 0
  · obtain rfl := str_empty h0
    clear h0
    go_enter Tryz.func100, Tryz.ntmps100
    go_wp2_with fail
    go_ret
    exact ⟨none, 0, 0, rfl, Gs.nil _, Below.refl _ _⟩
  · have e0 : s.toList.isEmpty = false := by
      rw [← decide_eq_emptyBytes]
      exact decide_eq_false (fun h => h0 (by rw [h]; rfl))
    have hl : labsN s.data.toList = spl 46 s.data.toList := by
      unfold labsN
      rw [if_neg]
      intro h
      exact h0 (by rw [Lib.size_eq, h]; rfl)
    rw [hl]
    have K := Lib.hid (refSplit_any s hs 46 w)
    clear hl h0
    go_enter Tryz.func100, Tryz.ntmps100
    go_wp2_with fail
    refine K.out.mono ?_
    rintro e w' ⟨v, xs, rfl, o1, hx, b1⟩
    obtain ⟨A, c, rfl, hG⟩ := Gs.of_own o1
    have hxs : xs = mkSs (spl 46 s.data.toList) := by rw [← hx, mk_bts]
    subst hxs
    have H1 := Lib.hid (And.intro hG b1)
    clear o1 hx b1 hG
    go_wp2_with fail
    go_ret
    exact ⟨_, _, _, rfl, H1.out.1, H1.out.2⟩

theorem sizeL_take_next {ls : List (List UInt8)} {k : Nat} {x : List UInt8} (h : ls[k]? = some x) : sizeL (ls.take (k + 1)) = sizeL (ls.take k) + (1 + x.length) := by
  rw [List.take_add_one, h]
  exact sizeL_one _ x
theorem sizeL_take_le (ls : List (List UInt8)) (k : Nat) : sizeL (ls.take k) ≤ sizeL ls := by
  have h1 := sizeL_append (ls.take k) (ls.drop k)
  rw [List.take_append_drop] at h1
  omega
theorem labs_size (l : List UInt8) : sizeL (labsN l) ≤ l.length + 1 := by
  by_cases h : l = []
  · rw [h]; decide
  · rw [sizeL_labsN h]; exact Nat.le_refl _
set_option maxHeartbeats 1000000 in
theorem ref_right (s : ByteArray) (hs : s.size ≤ 10000) (w : World) : Calls Tryz.prog 99 #[.string s] w fun e w' => e = .returned (.bool (decide (rightN s.data.toList))) ∧ Below w.heap.size w w' := by
  have K := Lib.hid (ref_labels s hs w)
  have hsl := labs_size s.data.toList
  rw [(Lib.size_eq s).symm] at hsl
  obtain ⟨dd, hdd⟩ : ∃ dd, decide (rightN s.data.toList) = dd := ⟨_, rfl⟩
  rw [hdd]
  have hiff : dd = true ↔ (∀ x ∈ labsN s.data.toList, labOk x) ∧ 1 + sizeL (labsN s.data.toList) ≤ 255 := by rw [← hdd, decide_eq_true_iff]; exact Iff.rfl
  clear hdd
  obtain ⟨ls, hls⟩ : ∃ ls, labsN s.data.toList = ls := ⟨_, rfl⟩
  rw [hls] at K hsl hiff
  have HD := Lib.hid hiff
  clear hiff
  have hge := sizeL_ge ls
  clear hls
  go_enter Tryz.func99, Tryz.ntmps99
  go_wp2_with fail
  refine K.out.mono ?_
  rintro e w1 ⟨A, n, c, rfl, hG, b1⟩
  have hn : n = ls.length := by have := hG.len; unfold sv mkSs at this; rw [List.length_map, List.length_map] at this; exact this.symm
  subst hn
  have hcap := hG.cap
  have hmax := hG.max
  unfold maxLen at hmax
  have H1 := Lib.hid (And.intro hG b1)
  clear hG b1
  go_wp2_with fail
  go_loop [4, 5] (fun n i => ∃ k : Nat, k ≤ ls.length ∧ i = .int .i64 k ∧ n = .int .i64 (1 + (sizeL (ls.take k) : Nat) : Int) ∧ ∀ (j : Nat) x, j < k → ls[j]? = some x → labOk x) (fun _ i => ls.length - (intOf i).toNat)
  case atStart => exact ⟨0, Nat.zero_le _, rfl, rfl, fun j x h => absurd h (by omega)⟩
  case round =>
    obtain ⟨k, hk, rfl, rfl, hall⟩ := hrel
    have hst := sizeL_take_le ls k
    by_cases hlt : k < ls.length
    · obtain ⟨x, hxk⟩ : ∃ x, ls[k]? = some x := ⟨ls[k]'hlt, List.getElem?_eq_getElem _⟩
      obtain ⟨b, o, rfl, h1⟩ := H1.out.1.get (k := k) (x := .string (mkS x)) (by unfold sv mkSs; rw [List.map_map, List.getElem?_map, hxk]; rfl)
      have hxl := mem_sizeL ls x (List.mem_of_getElem? hxk)
      have hxs : (mkS x).size = x.length := mkS_size x
      have KL := Lib.hid (ref_label (mkS x) (by rw [hxs]; omega) w1)
      rw [mkS_data] at KL
      have HX := Lib.hid (And.intro hxk (And.intro hall (sizeL_take_next hxk)))
      clear hall hxk
      by_cases hok : labOk x
      · rw [decide_eq_true hok] at KL
        have HO := Lib.hid hok
        clear hok
        go_wp2_with fail
        refine KL.out.mono ?_
        rintro e w' ⟨rfl, rfl⟩
        go_wp2_with fail
        go_round
        case rel =>
          refine ⟨k + 1, hlt, by go_num, by rw [HX.out.2.2]; push_cast; congr 1; omega, fun j y hj hy => ?_⟩
          by_cases hjk : j = k
          · subst hjk
            rw [HX.out.1] at hy
            obtain rfl := Option.some.inj hy
            exact HO.out
          · exact HX.out.2.1 j y (by omega) hy
        case measure => simp [intOf]; omega
      · rw [decide_eq_false hok] at KL
        have hno : dd = false := by
          cases hd : dd with
          | true => exact absurd ((HD.out.1 hd).1 x (List.mem_of_getElem? HX.out.1)) hok
          | false => rfl
        have HN := Lib.hid hno
        clear hok hno
        go_wp2_with fail
        refine KL.out.mono ?_
        rintro e w' ⟨rfl, rfl⟩
        go_wp2_with fail
        go_ret
        exact ⟨by rw [HN.out]; rfl, H1.out.2⟩
    · obtain rfl : k = ls.length := by omega
      rw [List.take_of_length_le (Nat.le_refl _)]
      have e1 : dd = decide ((1 : Int) + (sizeL ls : Int) ≤ 255) := by
        rw [Bool.eq_iff_iff, decide_eq_true_iff, HD.out]
        constructor
        · rintro ⟨_, h⟩; omega
        · intro h
          refine ⟨fun x hx => ?_, by omega⟩
          obtain ⟨j, hj⟩ := List.mem_iff_getElem?.1 hx
          exact hall j x (List.getElem?_eq_some_iff.1 hj).1 hj
      have E1 := Lib.hid e1
      clear hall e1
      go_wp2_with fail
      go_ret
      exact ⟨by rw [E1.out]; rfl, H1.out.2⟩

set_option maxHeartbeats 1000000 in
theorem ref_lower {A : Option Addr} {n c : Nat} {l : List UInt8} {w : World} (hb : Bs w A n c l) (hn : n ≤ 1000000) : Calls Tryz.prog 87 #[.slice A n c] w fun e w' => e = .returned (.string (mkS (lowL l))) ∧ Below w.heap.size w w' := by
  have hcap := hb.cap
  have hmax := hb.max
  unfold maxLen at hmax
  have HB := Lib.hid hb
  have HL := Lib.hid hb.len
  clear hb
  go_enter Tryz.func87, Tryz.ntmps87
  go_wp2_with fail
  go_loopw [3, 4] (fun v i wr => ∃ k : Nat, k ≤ n ∧ i = .int .i64 k ∧ wr.ownsRow w.heap.size 5 1 v k (bv (lowL (l.take k))) ∧ Below w.heap.size w wr) (fun _ i _ => n - (intOf i).toNat)
  case atStart => exact ⟨0, Nat.zero_le _, rfl, World.ownsRow_nil _ _ _ _, Below.refl _ _⟩
  case round =>
    obtain ⟨k, hk, rfl, ho, hbe⟩ := hrel
    by_cases hlt : k < n
    · obtain ⟨x, hx⟩ : ∃ x, l[k]? = some x := ⟨l[k]'(by rw [HL.out]; exact hlt), List.getElem?_eq_getElem _⟩
      obtain ⟨b, off, rfl, hc⟩ := (HB.out.later hbe (Nat.le_refl _)).here (by omega)
      have hcx := hc k x hx
      have hnext : lowL (l.take (k + 1)) = lowL (l.take k) ++ [lowB x] := by
        rw [List.take_add_one, hx]
        unfold lowL
        simp
      have HO := Lib.hid (And.intro ho (And.intro hbe hnext))
      have hxl := x.toNat_lt
      clear hc ho hbe hnext hx
      by_cases h65 : 65 ≤ x.toNat
      · by_cases h90 : x.toNat ≤ 90
        · have hlo : ((lowB x).toNat : Int) = (x.toNat : Int) + 32 := by
            rw [(lowB_cap ⟨h65, h90⟩).1, UInt8.toNat_add]
            show (((x.toNat + 32) % 256 : Nat) : Int) = _
            omega
          have HLO := Lib.hid hlo
          clear hlo
          go_wp2_with (at_builtin; refine wpList_append_bs rfl (.tmp 24) (.tmp 26) 22 rfl w.heap.size 5 info5 Tryz.underlying22 _ k (lowL (l.take k)) rfl (HO.out.1.alloc _) _ 1 1 [lowB x] rfl (by exact Bs.lit _ [lowB x] 1 rfl (by unfold maxLen; omega) _ (by simp [bv, HLO.out]) _) (by omega) (by have := HO.out.2.1.size; simp; omega) ?_; intro v3 w3 o3 g3 n3 m3; have H3 := Lib.hid (And.intro o3 g3); clear o3 g3 n3 m3)
          have hb3 : Below w.heap.size w w3 := (HO.out.2.1.alloc HO.out.2.1.size _).grown H3.out.2 (by have := HO.out.2.1.size; simp; omega) (fun q hq => (HO.out.1.lt q hq).1)
          refine ⟨⟨k + 1, hlt, by go_num, by rw [HO.out.2.2]; exact H3.out.1, hb3⟩, by simp [intOf]; omega⟩
        · have hlo : lowB x = x := lowB_not (by omega)
          have HLO := Lib.hid hlo
          clear hlo
          go_wp2_with (at_builtin; refine wpList_append_bs rfl (.tmp 24) (.tmp 26) 22 rfl w.heap.size 5 info5 Tryz.underlying22 _ k (lowL (l.take k)) rfl (HO.out.1.alloc _) _ 1 1 [x] rfl (by exact Bs.lit _ [x] 1 rfl (by unfold maxLen; omega) _ rfl _) (by omega) (by have := HO.out.2.1.size; simp; omega) ?_; intro v3 w3 o3 g3 n3 m3; have H3 := Lib.hid (And.intro o3 g3); clear o3 g3 n3 m3)
          have hb3 : Below w.heap.size w w3 := (HO.out.2.1.alloc HO.out.2.1.size _).grown H3.out.2 (by have := HO.out.2.1.size; simp; omega) (fun q hq => (HO.out.1.lt q hq).1)
          refine ⟨⟨k + 1, hlt, by go_num, by rw [HO.out.2.2, HLO.out]; exact H3.out.1, hb3⟩, by simp [intOf]; omega⟩
      · have hlo : lowB x = x := lowB_not (by omega)
        have HLO := Lib.hid hlo
        clear hlo
        go_wp2_with (at_builtin; refine wpList_append_bs rfl (.tmp 24) (.tmp 26) 22 rfl w.heap.size 5 info5 Tryz.underlying22 _ k (lowL (l.take k)) rfl (HO.out.1.alloc _) _ 1 1 [x] rfl (by exact Bs.lit _ [x] 1 rfl (by unfold maxLen; omega) _ rfl _) (by omega) (by have := HO.out.2.1.size; simp; omega) ?_; intro v3 w3 o3 g3 n3 m3; have H3 := Lib.hid (And.intro o3 g3); clear o3 g3 n3 m3)
        have hb3 : Below w.heap.size w w3 := (HO.out.2.1.alloc HO.out.2.1.size _).grown H3.out.2 (by have := HO.out.2.1.size; simp; omega) (fun q hq => (HO.out.1.lt q hq).1)
        refine ⟨⟨k + 1, hlt, by go_num, by rw [HO.out.2.2, HLO.out]; exact H3.out.1, hb3⟩, by simp [intOf]; omega⟩
    · obtain rfl : k = n := by omega
      obtain ⟨A', c', rfl, hB⟩ := Bs.of_own ho
      rw [List.take_of_length_le (by rw [HL.out]; exact Nat.le_refl _)] at hB
      have hcv := hB.convert (P := Tryz.prog) 22 5 9 Tryz.underlying22 Tryz.underlying5 Tryz.underlying9
      have HW := Lib.hid hbe
      clear ho hbe hB
      go_wp2_with fail
      go_ret
      exact ⟨rfl, HW.out⟩

end Go.Proofs.YtbikifaadpijnaaGreatDoor
