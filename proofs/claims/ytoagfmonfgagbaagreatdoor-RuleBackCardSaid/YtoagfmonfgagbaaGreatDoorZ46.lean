/-
  
-/
import Derived.Test.YtoagfmonfgagbaaGreatDoorZ44
import Derived.Test.YtoagfmonfgagbaaGreatDoorZ45
import Derived.Test.YtoagfmonfgagbaaGreatDoorZ43
namespace Go.Proofs.YtoagfmonfgagbaaGreatDoor
open Go.RowKit
set_option maxRecDepth 100000
def Keep (w : World) (g : Nat) (v1 v2 : Value) (x : Rs19) : Prop := RsBox w g v1 v2 ∧ A9O w 0 v1 x.servers ∧ RwO w 0 v2 (x.rules.map rwR)
theorem Keep.later {w w' : World} {g : Nat} {v1 v2 : Value} {x : Rs19} (h : Keep w g v1 v2 x) (hb : Below w.heap.size w w') : Keep w' g v1 v2 x := ⟨(hb.block g (lt_blk h.1)).trans h.1, h.2.1.later hb, h.2.2.later hb⟩
theorem Keep.text {w : World} {g : Nat} {v1 v2 : Value} {x : Rs19} (h : Keep w g v1 v2 x) (hr : RightR fx x) (hE : Env19 w) : Calls Tryz.prog 12 #[.agg (rsv v1 v2)] w fun e w' => e = .returned (.string (mkS (textR fx x))) ∧ Below w.heap.size w w' := by
  obtain ⟨A1, c1, rfl, g1, _⟩ := A9S.of_own h.2.1
  obtain ⟨A2, c2, rfl, g2, _⟩ := RwS.of_own h.2.2
  have e := linesW_ok hr
  have K := text19 g1 g2 hE (fun u hu => by
    obtain ⟨y, hy, rfl⟩ := List.mem_map.1 hu
    exact fit_ok (hr.one y hy)) (rightW_ok hr) (by
    rw [e]
    unfold linesOf
    rw [List.length_append, List.length_map, List.length_map]
    have := hr.s20
    have := hr.r200
    omega)
  rw [e] at K
  exact K
theorem Keep.right {w : World} {g : Nat} {v1 v2 : Value} {x : Rs19} (h : Keep w g v1 v2 x) (hr : RightR fx x) (hE : Env19 w) : Calls Tryz.prog 13 #[.agg (rsv v1 v2)] w fun e w' => e = .returned (.bool true) ∧ Below w.heap.size w w' := right_parsed hr hE h.2.1 h.2.2 rfl
theorem Keep.same {w : World} {g g' : Nat} {v1 v2 v3 v4 : Value} {x : Rs19} (h : Keep w g v1 v2 x) (k : Keep w g' v3 v4 x) : Calls Tryz.prog 14 #[.agg (rsv v1 v2), .agg (rsv v3 v4)] w fun e w' => e = .returned (.bool true) ∧ Below w.heap.size w w' := by
  obtain ⟨A1, c1, rfl, g1, _⟩ := A9S.of_own h.2.1
  obtain ⟨A2, c2, rfl, g2, _⟩ := RwS.of_own h.2.2
  obtain ⟨A3, c3, rfl, g3, _⟩ := A9S.of_own k.2.1
  obtain ⟨A4, c4, rfl, g4, _⟩ := RwS.of_own k.2.2
  exact rulesSame19 g1 g3 g2 g4
theorem textV_back {x : Rs19} (h : RightR fx x) : textV (textR fx x) = .inr x := by
  obtain ⟨ts, h1, h2⟩ := text_back fx_ok h
  unfold textV
  rw [h1]
  exact h2
theorem textV_cost {b : List UInt8} {x : Rs19} (h : textV b = .inr x) : cost x ≤ b.length := by
  unfold textV at h
  cases hl : lexM .gap 0 1 b with
  | inl p => rw [hl] at h; cases h
  | inr ts => rw [hl] at h; exact parse_cost hl h
theorem text_small {x : Rs19} (h : RightR fx x) (hc : cost x ≤ 3500) : (mkS (textR fx x)).size ≤ 20000 := by
  rw [mkS_size]
  exact text_fits fx_ta fx_tn h hc
theorem parsed_text {x : Rs19} (h : RightR fx x) (hc : cost x ≤ 3500) {w : World} (hE : Env19 w) : Calls Tryz.prog 11 #[.string (mkS (textR fx x))] w fun e w' => ∃ v1 v2, e = .returned (.tuple #[.agg (rsv v1 v2), .nilIface]) ∧ A9O w' 0 v1 x.servers ∧ RwO w' 0 v2 (x.rules.map rwR) ∧ Below w.heap.size w w' :=
  (parsed_ok (s := mkS (textR fx x)) hE (text_small h hc) (by rw [mkS_data]; exact textV_back h)).mono fun _ _ ⟨v1, v2, he, h1, h2, hb⟩ => ⟨v1, v2, he, h1.base (Nat.zero_le _), h2.base (Nat.zero_le _), hb⟩
end Go.Proofs.YtoagfmonfgagbaaGreatDoor

namespace Go.Proofs.YtoagfmonfgagbaaGreatDoor
open Go.RowKit
set_option maxRecDepth 100000
set_option maxHeartbeats 8000000 in
theorem back_big {A1 A2 : Option Addr} {n1 c1 n2 c2 : Nat} {ss : List Ad19} {us : List Rw} {w : World} (h1 : A9S w A1 n1 c1 ss) (h2 : RwS w A2 n2 c2 us) (hn : ∀ x ∈ us, x.name.length ≤ 9223372036854775807) (S : ByteArray) (hS : 3000 < S.size) (hE : Env19 w) : Calls Tryz.prog 3 #[.agg (rsv (.slice A1 n1 c1) (.slice A2 n2 c2)), .string S] w fun e w' => e = .returned (.bool true) ∧ Below w.heap.size w w' := by
  obtain ⟨s, hs⟩ : ∃ s, w.heap.size = s := ⟨_, rfl⟩
  have hbx : RsBox (w.alloc (.cells (rsv (.slice A1 n1 c1) (.slice A2 n2 c2)) 25)) s (.slice A1 n1 c1) (.slice A2 n2 c2) := by rw [← hs]; exact World.alloc_heap_new w _
  have hb0 : Below w.heap.size w (w.alloc (.cells (rsv (.slice A1 n1 c1) (.slice A2 n2 c2)) 25)) := (Below.refl _ _).alloc (Nat.le_refl _) _
  have hz0 : (w.alloc (.cells (rsv (.slice A1 n1 c1) (.slice A2 n2 c2)) 25)).heap.size = s + 1 := by simp [hs]
  have K := playRules19 (h1.later hb0 (Nat.le_refl _)) (h2.later hb0 (Nat.le_refl _)) hn
  obtain ⟨va, hva⟩ : ∃ va, Value.slice A1 n1 c1 = va := ⟨_, rfl⟩
  obtain ⟨vb, hvb⟩ : ∃ vb, Value.slice A2 n2 c2 = vb := ⟨_, rfl⟩
  rw [hva, hvb] at K hbx hb0 hz0
  have one1 : va.oneCell' = true := by rw [← hva]; rfl
  have one2 : vb.oneCell' = true := by rw [← hvb]; rfl
  obtain ⟨W0, hW0⟩ : ∃ W0, w.alloc (.cells (rsv va vb) 25) = W0 := ⟨_, rfl⟩
  rw [hva, hvb]
  rw [hW0] at K hbx hb0 hz0
  have HK := Lib.hid K
  have H0 := Lib.hid (And.intro hbx (And.intro hb0 hz0))
  have HE := Lib.hid hE
  have HW0 := Lib.hid hW0
  clear K hbx hb0 hz0 hE h1 h2 hn hva hvb hW0
  go_enter Tryz.func3, Tryz.ntmps3
  go_wp2_with (rw [HW0.out])
  refine (awake19 (HE.out.later H0.out.2.1 (Nat.le_refl _))).mono ?_
  rintro e w1 ⟨rfl, b1⟩
  have H1 := Lib.hid (H0.out.2.1.trans (b1.mono H0.out.2.1.size))
  clear b1
  go_wp2_with fail
  go_ret
  exact ⟨rfl, H1.out⟩
set_option maxHeartbeats 16000000 in
theorem back_err {A1 A2 : Option Addr} {n1 c1 n2 c2 : Nat} {ss : List Ad19} {us : List Rw} {w : World} (h1 : A9S w A1 n1 c1 ss) (h2 : RwS w A2 n2 c2 us) (hn : ∀ x ∈ us, x.name.length ≤ 9223372036854775807) (S : ByteArray) (hS : S.size ≤ 3000) (y : Int × Nat) (hy : textV S.data.toList = .inl y) (hE : Env19 w) : Calls Tryz.prog 3 #[.agg (rsv (.slice A1 n1 c1) (.slice A2 n2 c2)), .string S] w fun e w' => e = .returned (.bool true) ∧ Below w.heap.size w w' := by
  have HY := Lib.hid hy
  clear hy
  obtain ⟨s, hs⟩ : ∃ s, w.heap.size = s := ⟨_, rfl⟩
  have hbx : RsBox (w.alloc (.cells (rsv (.slice A1 n1 c1) (.slice A2 n2 c2)) 25)) s (.slice A1 n1 c1) (.slice A2 n2 c2) := by rw [← hs]; exact World.alloc_heap_new w _
  have hb0 : Below w.heap.size w (w.alloc (.cells (rsv (.slice A1 n1 c1) (.slice A2 n2 c2)) 25)) := (Below.refl _ _).alloc (Nat.le_refl _) _
  have hz0 : (w.alloc (.cells (rsv (.slice A1 n1 c1) (.slice A2 n2 c2)) 25)).heap.size = s + 1 := by simp [hs]
  have K := playRules19 (h1.later hb0 (Nat.le_refl _)) (h2.later hb0 (Nat.le_refl _)) hn
  obtain ⟨va, hva⟩ : ∃ va, Value.slice A1 n1 c1 = va := ⟨_, rfl⟩
  obtain ⟨vb, hvb⟩ : ∃ vb, Value.slice A2 n2 c2 = vb := ⟨_, rfl⟩
  rw [hva, hvb] at K hbx hb0 hz0
  have one1 : va.oneCell' = true := by rw [← hva]; rfl
  have one2 : vb.oneCell' = true := by rw [← hvb]; rfl
  obtain ⟨W0, hW0⟩ : ∃ W0, w.alloc (.cells (rsv va vb) 25) = W0 := ⟨_, rfl⟩
  rw [hva, hvb]
  rw [hW0] at K hbx hb0 hz0
  have HK := Lib.hid K
  have H0 := Lib.hid (And.intro hbx (And.intro hb0 hz0))
  have HE := Lib.hid hE
  have HW0 := Lib.hid hW0
  clear K hbx hb0 hz0 hE h1 h2 hn hva hvb hW0
  go_enter Tryz.func3, Tryz.ntmps3
  go_wp2_with (first
    | (rw [HW0.out])
    | (refine wpList_load_rs (g := s) (p := va) (q := vb) rfl (.tmp 2) rfl (by rw [← hs]; rfl) H0.out.1 ?_)
    | (go_at_call 10; refine HK.out.mono ?_; rintro e w1 ⟨v1, v2, x, rfl, hpl⟩; have hq := (hpl.2.2.2.2.2.2.1.block s (lt_blk H0.out.1)).trans H0.out.1; have H1 := Lib.hid (And.intro hpl hq); clear hpl hq)
    | (refine wpList_store_rs (g := s) rfl (.tmp 2) (.tmp 16) rfl v1 v2 H1.out.1.1.one H1.out.1.2.1.one (by rw [← hs]; rfl) rfl H1.out.2 ?_; intro w2 a2 o2 z2 b2; have H2 := Lib.hid (And.intro a2 (And.intro o2 (b2 s w (Nat.le_refl _) (by rw [← hs]; exact H0.out.2.1.trans (H1.out.1.2.2.2.2.2.2.1.mono (by rw [hs, H0.out.2.2]; omega)))))); clear a2 o2 z2 b2)
    | (refine wpList_load_rs (g := s) (p := v1) (q := v2) rfl (.tmp 2) rfl rfl H2.out.1 ?_))
  have hrx := H1.out.1.2.2.1
  have hcx : cost x ≤ 3500 := Nat.le_trans H1.out.1.2.2.2.2.2.1 (by decide)
  have ne1 : ∀ b, v1.ownBlock = some b → b ≠ s := fun b hb => by have := (H1.out.1.1.lt hb).1; have := H0.out.2.2; omega
  have ne2 : ∀ b, v2.ownBlock = some b → b ≠ s := fun b hb => by have := (H1.out.1.2.1.lt hb).1; have := H0.out.2.2; omega
  have K2 : Keep w2 s v1 v2 x := ⟨H2.out.1, (H1.out.1.1.kept fun b hb => H2.out.2.1 b (ne1 b hb)).base (Nat.zero_le _), (H1.out.1.2.1.kept fun b hb => H2.out.2.1 b (ne2 b hb)).base (Nat.zero_le _)⟩
  have HX := Lib.hid (And.intro hrx (And.intro hcx (And.intro K2 H2.out.2.2)))
  clear ne1 ne2 hrx hcx K2
  have EN := Lib.hid (fun (w' : World) (h : Below w2.heap.size w2 w') => HE.out.later (HX.out.2.2.2.trans (h.mono (by have := HX.out.2.2.2.size; omega))) (Nat.le_of_eq hs))
  refine (HX.out.2.2.1.text HX.out.1 (EN.out _ (Below.refl _ _))).mono ?_
  rintro e w3 ⟨rfl, b3⟩
  have KP := parsed_text HX.out.1 HX.out.2.1 (EN.out _ b3)
  obtain ⟨J, hJ⟩ : ∃ J, mkS (textR fx x) = J := ⟨_, rfl⟩
  rw [hJ] at KP ⊢
  have HKP := Lib.hid KP
  have B3 := Lib.hid b3
  clear KP hJ b3
  go_wp2_with fail
  refine HKP.out.mono ?_
  rintro e w5p ⟨v3, v4, rfl, k1, k2, b5⟩
  have H5p := Lib.hid (And.intro k1 (And.intro k2 (B3.out.trans (b5.mono B3.out.size))))
  clear k1 k2 b5
  go_wp2_with (first
    | (refine wpList_alloc_rs rfl rfl ?_; intro w5a a2 b2 z2; have H5a := Lib.hid (And.intro a2 b2); clear a2 b2 z2)
    | (refine wpList_store_rs rfl (.tmp 5) (.tmp 21) rfl v3 v4 H5p.out.1.one H5p.out.2.1.one rfl rfl H5a.out.1 ?_; intro w5 a3 o3 z3 b3; have H5 := Lib.hid (And.intro a3 (b3 w5p.heap.size w5p (Nat.le_refl _) H5a.out.2)); clear a3 o3 z3 b3))
  have B5 := Lib.hid (H5p.out.2.2.trans (H5.out.2.mono H5p.out.2.2.size))
  have K5 := Lib.hid (show Keep w5 w5p.heap.size v3 v4 x from ⟨H5.out.1, H5p.out.1.later H5.out.2, H5p.out.2.1.later H5.out.2⟩)
  refine (parsed_err (s := S) (EN.out _ B5.out) (by omega) HY.out).mono ?_
  rintro e w7p ⟨ge, rfl, _, b7⟩
  have H7p := Lib.hid b7
  clear b7
  go_wp2_with (first
    | (refine wpList_alloc_rs rfl rfl ?_; intro w7a a2 b2 z2; have H7a := Lib.hid (And.intro a2 b2); clear a2 b2 z2)
    | (refine wpList_store_rs rfl (.tmp 7) (.tmp 26) rfl (.slice none 0 0) (.slice none 0 0) rfl rfl rfl rfl H7a.out.1 ?_; intro w7 a3 o3 z3 b3; have H7 := Lib.hid (And.intro a3 (b3 w7p.heap.size w7p (Nat.le_refl _) H7a.out.2)); clear a3 o3 z3 b3))
  have L7 := Lib.hid (H7p.out.trans (H7.out.2.mono H7p.out.size))
  have B7 := Lib.hid (B5.out.trans (L7.out.mono B5.out.size))
  have K7 := K5.out.later L7.out
  have HK7 := Lib.hid K7
  clear K7
  refine (awake19 (EN.out _ B7.out)).mono ?_
  rintro e w8 ⟨rfl, b8⟩
  have B8 := Lib.hid (B7.out.trans (b8.mono B7.out.size))
  have L8 := Lib.hid b8
  clear b8
  have K8 := HX.out.2.2.1.later B8.out
  go_wp2_with (first
    | (refine wpList_wantd rfl (wp_load_rs (g := s) (p := v1) (q := v2) (.tmp 2) rfl rfl K8.1 ?_)))
  refine (K8.right HX.out.1 (EN.out _ B8.out)).mono ?_
  clear K8
  rintro e w9 ⟨rfl, b9⟩
  have B9 := Lib.hid (B8.out.trans (b9.mono B8.out.size))
  have L9 := Lib.hid (L8.out.trans (b9.mono L8.out.size))
  clear b9
  have K9 := HX.out.2.2.1.later B9.out
  have M9 := HK7.out.later L9.out
  go_wp2_with (first
    | (refine wpList_wantd rfl (wp_load_rs (g := w5p.heap.size) (p := v3) (q := v4) (.tmp 5) rfl rfl M9.1 ?_))
    | (refine wpList_wantd rfl (wp_load_rs (g := s) (p := v1) (q := v2) (.tmp 2) rfl rfl K9.1 ?_)))
  refine (M9.same K9).mono ?_
  clear K9 M9
  rintro e w10 ⟨rfl, b10⟩
  have B10 := Lib.hid (B9.out.trans (b10.mono B9.out.size))
  have L10 := Lib.hid (L9.out.trans (b10.mono L9.out.size))
  clear b10
  have q7 := (L10.out.block _ (lt_blk H7.out.1)).trans H7.out.1
  have q70 : w10.cell? ⟨w7p.heap.size, 0, none⟩ = some (.slice none 0 0) := cell_of_row w10 w7p.heap.size 0 _ _ _ q7
  have q71 : w10.cell? ⟨w7p.heap.size, 1, none⟩ = some (.slice none 0 0) := cell_of_row w10 w7p.heap.size 1 _ _ _ q7
  clear q7
  go_wp2_with fail
  go_ret
  refine ⟨rfl, ?_⟩
  rw [hs]
  exact HX.out.2.2.2.trans (B10.out.mono (by have := HX.out.2.2.2.size; omega))
set_option maxHeartbeats 16000000 in
theorem back_ok {A1 A2 : Option Addr} {n1 c1 n2 c2 : Nat} {ss : List Ad19} {us : List Rw} {w : World} (h1 : A9S w A1 n1 c1 ss) (h2 : RwS w A2 n2 c2 us) (hn : ∀ x ∈ us, x.name.length ≤ 9223372036854775807) (S : ByteArray) (hS : S.size ≤ 3000) (y : Rs19) (hy : textV S.data.toList = .inr y) (hE : Env19 w) : Calls Tryz.prog 3 #[.agg (rsv (.slice A1 n1 c1) (.slice A2 n2 c2)), .string S] w fun e w' => e = .returned (.bool true) ∧ Below w.heap.size w w' := by
  have hcy : cost y ≤ 3500 := Nat.le_trans (textV_cost hy) (by rw [← Lib.size_eq]; omega)
  have HY := Lib.hid (And.intro hy (And.intro (textV_right hy) hcy))
  clear hy hcy
  obtain ⟨s, hs⟩ : ∃ s, w.heap.size = s := ⟨_, rfl⟩
  have hbx : RsBox (w.alloc (.cells (rsv (.slice A1 n1 c1) (.slice A2 n2 c2)) 25)) s (.slice A1 n1 c1) (.slice A2 n2 c2) := by rw [← hs]; exact World.alloc_heap_new w _
  have hb0 : Below w.heap.size w (w.alloc (.cells (rsv (.slice A1 n1 c1) (.slice A2 n2 c2)) 25)) := (Below.refl _ _).alloc (Nat.le_refl _) _
  have hz0 : (w.alloc (.cells (rsv (.slice A1 n1 c1) (.slice A2 n2 c2)) 25)).heap.size = s + 1 := by simp [hs]
  have K := playRules19 (h1.later hb0 (Nat.le_refl _)) (h2.later hb0 (Nat.le_refl _)) hn
  obtain ⟨va, hva⟩ : ∃ va, Value.slice A1 n1 c1 = va := ⟨_, rfl⟩
  obtain ⟨vb, hvb⟩ : ∃ vb, Value.slice A2 n2 c2 = vb := ⟨_, rfl⟩
  rw [hva, hvb] at K hbx hb0 hz0
  have one1 : va.oneCell' = true := by rw [← hva]; rfl
  have one2 : vb.oneCell' = true := by rw [← hvb]; rfl
  obtain ⟨W0, hW0⟩ : ∃ W0, w.alloc (.cells (rsv va vb) 25) = W0 := ⟨_, rfl⟩
  rw [hva, hvb]
  rw [hW0] at K hbx hb0 hz0
  have HK := Lib.hid K
  have H0 := Lib.hid (And.intro hbx (And.intro hb0 hz0))
  have HE := Lib.hid hE
  have HW0 := Lib.hid hW0
  clear K hbx hb0 hz0 hE h1 h2 hn hva hvb hW0
  go_enter Tryz.func3, Tryz.ntmps3
  go_wp2_with (first
    | (rw [HW0.out])
    | (refine wpList_load_rs (g := s) (p := va) (q := vb) rfl (.tmp 2) rfl (by rw [← hs]; rfl) H0.out.1 ?_)
    | (go_at_call 10; refine HK.out.mono ?_; rintro e w1 ⟨v1, v2, x, rfl, hpl⟩; have hq := (hpl.2.2.2.2.2.2.1.block s (lt_blk H0.out.1)).trans H0.out.1; have H1 := Lib.hid (And.intro hpl hq); clear hpl hq)
    | (refine wpList_store_rs (g := s) rfl (.tmp 2) (.tmp 16) rfl v1 v2 H1.out.1.1.one H1.out.1.2.1.one (by rw [← hs]; rfl) rfl H1.out.2 ?_; intro w2 a2 o2 z2 b2; have H2 := Lib.hid (And.intro a2 (And.intro o2 (b2 s w (Nat.le_refl _) (by rw [← hs]; exact H0.out.2.1.trans (H1.out.1.2.2.2.2.2.2.1.mono (by rw [hs, H0.out.2.2]; omega)))))); clear a2 o2 z2 b2)
    | (refine wpList_load_rs (g := s) (p := v1) (q := v2) rfl (.tmp 2) rfl rfl H2.out.1 ?_))
  have hrx := H1.out.1.2.2.1
  have hcx : cost x ≤ 3500 := Nat.le_trans H1.out.1.2.2.2.2.2.1 (by decide)
  have ne1 : ∀ b, v1.ownBlock = some b → b ≠ s := fun b hb => by have := (H1.out.1.1.lt hb).1; have := H0.out.2.2; omega
  have ne2 : ∀ b, v2.ownBlock = some b → b ≠ s := fun b hb => by have := (H1.out.1.2.1.lt hb).1; have := H0.out.2.2; omega
  have K2 : Keep w2 s v1 v2 x := ⟨H2.out.1, (H1.out.1.1.kept fun b hb => H2.out.2.1 b (ne1 b hb)).base (Nat.zero_le _), (H1.out.1.2.1.kept fun b hb => H2.out.2.1 b (ne2 b hb)).base (Nat.zero_le _)⟩
  have HX := Lib.hid (And.intro hrx (And.intro hcx (And.intro K2 H2.out.2.2)))
  clear ne1 ne2 hrx hcx K2
  have EN := Lib.hid (fun (w' : World) (h : Below w2.heap.size w2 w') => HE.out.later (HX.out.2.2.2.trans (h.mono (by have := HX.out.2.2.2.size; omega))) (Nat.le_of_eq hs))
  refine (HX.out.2.2.1.text HX.out.1 (EN.out _ (Below.refl _ _))).mono ?_
  rintro e w3 ⟨rfl, b3⟩
  have KP := parsed_text HX.out.1 HX.out.2.1 (EN.out _ b3)
  obtain ⟨J, hJ⟩ : ∃ J, mkS (textR fx x) = J := ⟨_, rfl⟩
  rw [hJ] at KP ⊢
  have HKP := Lib.hid KP
  have B3 := Lib.hid b3
  clear KP hJ b3
  go_wp2_with fail
  refine HKP.out.mono ?_
  rintro e w5p ⟨v3, v4, rfl, k1, k2, b5⟩
  have H5p := Lib.hid (And.intro k1 (And.intro k2 (B3.out.trans (b5.mono B3.out.size))))
  clear k1 k2 b5
  go_wp2_with (first
    | (refine wpList_alloc_rs rfl rfl ?_; intro w5a a2 b2 z2; have H5a := Lib.hid (And.intro a2 b2); clear a2 b2 z2)
    | (refine wpList_store_rs rfl (.tmp 5) (.tmp 21) rfl v3 v4 H5p.out.1.one H5p.out.2.1.one rfl rfl H5a.out.1 ?_; intro w5 a3 o3 z3 b3; have H5 := Lib.hid (And.intro a3 (b3 w5p.heap.size w5p (Nat.le_refl _) H5a.out.2)); clear a3 o3 z3 b3))
  have B5 := Lib.hid (H5p.out.2.2.trans (H5.out.2.mono H5p.out.2.2.size))
  have K5 := Lib.hid (show Keep w5 w5p.heap.size v3 v4 x from ⟨H5.out.1, H5p.out.1.later H5.out.2, H5p.out.2.1.later H5.out.2⟩)
  refine (parsed_ok (s := S) (EN.out _ B5.out) (by omega) HY.out.1).mono ?_
  rintro e w7p ⟨v5, v6, rfl, k1, k2, b7⟩
  have H7p := Lib.hid (And.intro b7 (And.intro k1 k2))
  clear b7 k1 k2
  go_wp2_with (first
    | (refine wpList_alloc_rs rfl rfl ?_; intro w7a a2 b2 z2; have H7a := Lib.hid (And.intro a2 b2); clear a2 b2 z2)
    | (refine wpList_store_rs rfl (.tmp 7) (.tmp 26) rfl v5 v6 H7p.out.2.1.one H7p.out.2.2.one rfl rfl H7a.out.1 ?_; intro w7 a3 o3 z3 b3; have H7 := Lib.hid (And.intro a3 (b3 w7p.heap.size w7p (Nat.le_refl _) H7a.out.2)); clear a3 o3 z3 b3))
  have L7 := Lib.hid (H7p.out.1.trans (H7.out.2.mono H7p.out.1.size))
  have B7 := Lib.hid (B5.out.trans (L7.out.mono B5.out.size))
  have HK7 := Lib.hid (K5.out.later L7.out)
  have HY7 := Lib.hid (show Keep w7 w7p.heap.size v5 v6 y from ⟨H7.out.1, (H7p.out.2.1.later H7.out.2).base (Nat.zero_le _), (H7p.out.2.2.later H7.out.2).base (Nat.zero_le _)⟩)
  refine (awake19 (EN.out _ B7.out)).mono ?_
  rintro e w8 ⟨rfl, b8⟩
  have B8 := Lib.hid (B7.out.trans (b8.mono B7.out.size))
  have L8 := Lib.hid b8
  clear b8
  have K8 := HX.out.2.2.1.later B8.out
  go_wp2_with (first
    | (refine wpList_wantd rfl (wp_load_rs (g := s) (p := v1) (q := v2) (.tmp 2) rfl rfl K8.1 ?_)))
  refine (K8.right HX.out.1 (EN.out _ B8.out)).mono ?_
  clear K8
  rintro e w9 ⟨rfl, b9⟩
  have B9 := Lib.hid (B8.out.trans (b9.mono B8.out.size))
  have L9 := Lib.hid (L8.out.trans (b9.mono L8.out.size))
  clear b9
  have K9 := HX.out.2.2.1.later B9.out
  have M9 := HK7.out.later L9.out
  go_wp2_with (first
    | (refine wpList_wantd rfl (wp_load_rs (g := w5p.heap.size) (p := v3) (q := v4) (.tmp 5) rfl rfl M9.1 ?_))
    | (refine wpList_wantd rfl (wp_load_rs (g := s) (p := v1) (q := v2) (.tmp 2) rfl rfl K9.1 ?_)))
  refine (M9.same K9).mono ?_
  clear K9 M9
  rintro e w10 ⟨rfl, b10⟩
  have B10 := Lib.hid (B9.out.trans (b10.mono B9.out.size))
  have L10 := Lib.hid (L9.out.trans (b10.mono L9.out.size))
  clear b10
  have Y10 := Lib.hid (HY7.out.later L10.out)
  go_wp2_with (first
    | (refine wpList_load_rs (g := w7p.heap.size) (p := v5) (q := v6) rfl (.tmp 7) rfl rfl Y10.out.1 ?_))
  refine (Y10.out.text HY.out.2.1 (EN.out _ B10.out)).mono ?_
  rintro e w11 ⟨rfl, b11⟩
  have B11 := Lib.hid (B10.out.trans (b11.mono B10.out.size))
  have Y11 := Lib.hid (Y10.out.later b11)
  clear b11
  have KP := parsed_text HY.out.2.1 HY.out.2.2 (EN.out _ B11.out)
  obtain ⟨J2, hJ2⟩ : ∃ J, mkS (textR fx y) = J := ⟨_, rfl⟩
  rw [hJ2] at KP ⊢
  have HKQ := Lib.hid KP
  clear KP hJ2
  go_wp2_with fail
  refine HKQ.out.mono ?_
  rintro e w12p ⟨v7, v8, rfl, k1, k2, b12⟩
  have H12p := Lib.hid (And.intro k1 (And.intro k2 b12))
  clear k1 k2 b12
  go_wp2_with (first
    | (refine wpList_alloc_rs rfl rfl ?_; intro w12a a2 b2 z2; have H12a := Lib.hid (And.intro a2 b2); clear a2 b2 z2)
    | (refine wpList_store_rs rfl (.tmp 9) (.tmp 61) rfl v7 v8 H12p.out.1.one H12p.out.2.1.one rfl rfl H12a.out.1 ?_; intro w12 a3 o3 z3 b3; have H12 := Lib.hid (And.intro a3 (b3 w12p.heap.size w12p (Nat.le_refl _) H12a.out.2)); clear a3 o3 z3 b3)
    | (refine wpList_load_rs (g := w7p.heap.size) (p := v5) (q := v6) rfl (.tmp 7) rfl rfl ((Y11.out.later H12p.out.2.2).later H12.out.2).1 ?_))
  have B12 := Lib.hid (B11.out.trans ((H12p.out.2.2.trans (H12.out.2.mono H12p.out.2.2.size)).mono B11.out.size))
  have Y12 := Lib.hid ((Y11.out.later H12p.out.2.2).later H12.out.2)
  have Z12 := Lib.hid (show Keep w12 w12p.heap.size v7 v8 y from ⟨H12.out.1, H12p.out.1.later H12.out.2, H12p.out.2.1.later H12.out.2⟩)
  refine (Y12.out.right HY.out.2.1 (EN.out _ B12.out)).mono ?_
  rintro e w13 ⟨rfl, b13⟩
  have B13 := Lib.hid (B12.out.trans (b13.mono B12.out.size))
  have Y13 := Y12.out.later b13
  have Z13 := Z12.out.later b13
  clear b13
  go_wp2_with (first
    | (refine wpList_wantd rfl (wp_load_rs (g := w12p.heap.size) (p := v7) (q := v8) (.tmp 9) rfl rfl Z13.1 ?_))
    | (refine wpList_wantd rfl (wp_load_rs (g := w7p.heap.size) (p := v5) (q := v6) (.tmp 7) rfl rfl Y13.1 ?_)))
  refine (Z13.same Y13).mono ?_
  rintro e w14 ⟨rfl, b14⟩
  have B14 := Lib.hid (B13.out.trans (b14.mono B13.out.size))
  clear b14 Y13 Z13
  go_wp2_with fail
  go_ret
  refine ⟨rfl, ?_⟩
  rw [hs]
  exact HX.out.2.2.2.trans (B14.out.mono (by have := HX.out.2.2.2.size; omega))
theorem ruleBack {A1 A2 : Option Addr} {n1 c1 n2 c2 : Nat} {ss : List Ad19} {us : List Rw} {w : World} (h1 : A9S w A1 n1 c1 ss) (h2 : RwS w A2 n2 c2 us) (hn : ∀ x ∈ us, x.name.length ≤ 9223372036854775807) (S : ByteArray) (hE : Env19 w) : Calls Tryz.prog 3 #[.agg (rsv (.slice A1 n1 c1) (.slice A2 n2 c2)), .string S] w fun e w' => e = .returned (.bool true) ∧ Below w.heap.size w w' := by
  by_cases hS : 3000 < S.size
  · exact back_big h1 h2 hn S hS hE
  · cases hv : textV S.data.toList with
    | inl y => exact back_err h1 h2 hn S (by omega) y hv hE
    | inr y => exact back_ok h1 h2 hn S (by omega) y hv hE
end Go.Proofs.YtoagfmonfgagbaaGreatDoor
