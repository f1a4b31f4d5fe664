/-
  
-/
import Derived.Test.YtoagfmonfgagbaaGreatDoorZ31
import Derived.Test.YtoagfmonfgagbaaGreatDoorZ35
namespace Go.Proofs.YtoagfmonfgagbaaGreatDoor
open Go.RowKit
set_option maxRecDepth 100000
def parsev (l : List UInt8) : Option (Bool × List UInt8) :=
  match four l with
  | some (some bs) => some (false, bs)
  | some none => none
  | none => (six l).map fun bs => (true, bs)
def Pa (r : Option (Bool × List UInt8)) (w : World) (e : Ending) (w' : World) : Prop :=
  Below w.heap.size w w' ∧ match r with
    | some (v6, bs) => bs.length = 16 ∧ e = .returned (.tuple #[.agg (adv v6 bs), .nilIface])
    | none => e = .returned (.tuple #[.agg (adv false (List.replicate 16 0)), .iface 37 (.int .i64 17)])
set_option maxHeartbeats 2000000 in
theorem Parse_any (s : ByteArray) (hs : s.size < 4294967281) {w : World} (hE : Env w) : Calls Tryz.prog 108 #[.string s] w (Pa (parsev s.data.toList) w) := by
  have hpv : parsev s.data.toList = match four s.data.toList with
  | some (some bs) => some (false, bs)
  | some none => none
  | none => (six s.data.toList).map fun bs => (true, bs) := rfl
  have HE := Lib.hid hE
  clear hE
  have K4 : ∀ w1, Below w.heap.size w w1 → Hid (Calls Tryz.prog 122 #[.string s] w1 (P4 (four s.data.toList) w1)) := fun w1 hb => parse4_any s hs (HE.out.later hb (Nat.le_refl _))
  have K6 : ∀ w1, Below w.heap.size w w1 → Hid (Calls Tryz.prog 123 #[.string s] w1 (P6 (six s.data.toList) w1)) := fun w1 hb => parse6_any s hs (HE.out.later hb (Nat.le_refl _))
  have K4' := Lib.hid K4
  have K6' := Lib.hid K6
  clear K4 K6
  cases h4 : four s.data.toList with
  | some r =>
    cases r with
    | some bs =>
      rw [h4] at K4' hpv
      have HP := Lib.hid hpv
      clear hpv h4
      go_enter Tryz.func108, Tryz.ntmps108
      go_wp2_with (refine wpList_alloc_ad rfl rfl ?_; intro w1 a1 b1 z1; have H1 := Lib.hid (And.intro a1 b1); clear a1 b1 z1)
      refine (K4'.out w1 H1.out.2).out.mono ?_
      rintro e w2 ⟨b2, hbs, rfl⟩
      have H2 := Lib.hid (And.intro (H1.out.1.later b2 (Nat.le_refl _)) (H1.out.2.trans (b2.mono H1.out.2.size)))
      clear b2
      go_wp2_with (first
        | (refine wpList_alloc_ad rfl rfl ?_; intro w3 a3 b3 z3; have H3 := Lib.hid (And.intro (H2.out.1.later b3 (Nat.le_refl _)) (And.intro a3 (And.intro (H2.out.2.trans (b3.mono H2.out.2.size)) b3))); clear a3 b3 z3)
        | (refine wpList_store_ad rfl (.tmp 4) (.tmp 9) rfl false bs rfl rfl hbs H3.out.2.1 ?_; intro w4 a4 o4 z4 b4; have H4 := Lib.hid (And.intro (H2.out.1.later (b4 _ _ (Nat.le_refl _) H3.out.2.2.2) (Nat.le_refl _)) (And.intro a4 (And.intro (b4 w.heap.size w H2.out.2.size H3.out.2.2.1) (b4 _ _ (Nat.le_refl _) H3.out.2.2.2)))); clear a4 o4 z4 b4))
      refine (Is_nil6 _).mono ?_
      rintro e w5 ⟨rfl, rfl⟩
      go_wp2_with (first
        | (refine wpList_load_ad rfl (.tmp 4) rfl rfl H4.out.2.1 ?_)
        | (refine wpList_store_ad rfl (.tmp 2) (.tmp 23) rfl false bs rfl rfl hbs H4.out.1 ?_; intro w6 a6 o6 z6 b6; have H6 := Lib.hid (And.intro a6 (b6 w.heap.size w (Nat.le_refl _) H4.out.2.2.1)); clear a6 o6 z6 b6))
      exact bodyPost_ret (results_ad_tmp rfl _ rfl H6.out.1) rfl (by rw [HP.out]; exact ⟨H6.out.2, hbs, rfl⟩)
    | none =>
      rw [h4] at K4' hpv
      have HP := Lib.hid hpv
      clear hpv h4
      go_enter Tryz.func108, Tryz.ntmps108
      go_wp2_with (refine wpList_alloc_ad rfl rfl ?_; intro w1 a1 b1 z1; have H1 := Lib.hid (And.intro a1 b1); clear a1 b1 z1)
      refine (K4'.out w1 H1.out.2).out.mono ?_
      rintro e w2 ⟨b2, er, rfl, d2⟩
      obtain ⟨T, xv, rfl⟩ := d2.held
      have H2 := Lib.hid (And.intro (H1.out.1.later b2 (Nat.le_refl _)) (And.intro (H1.out.2.trans (b2.mono H1.out.2.size)) d2))
      clear b2 d2
      go_wp2_with (first
        | (refine wpList_alloc_ad rfl rfl ?_; intro w3 a3 b3 z3; have H3 := Lib.hid (And.intro (H2.out.1.later b3 (Nat.le_refl _)) (And.intro a3 (And.intro (H2.out.2.1.trans (b3.mono H2.out.2.1.size)) (And.intro b3 (H2.out.2.2.later b3 (Nat.le_refl _)))))); clear a3 b3 z3)
        | (refine wpList_store_ad rfl (.tmp 4) (.tmp 9) rfl false (List.replicate 16 0) rfl rfl rfl H3.out.2.1 ?_; intro w4 a4 o4 z4 b4; have H4 := Lib.hid (And.intro (H2.out.1.later (b4 _ _ (Nat.le_refl _) H3.out.2.2.2.1) (Nat.le_refl _)) (And.intro a4 (And.intro (b4 w.heap.size w H2.out.2.1.size H3.out.2.2.1) (H3.out.2.2.2.2.beside H3.out.2.1 o4)))); clear a4 o4 z4 b4))
      obtain ⟨d, hd⟩ := H4.out.2.2.2.not6
      refine (Is_not6 hd).mono ?_
      rintro e w5 ⟨rfl, rfl⟩
      clear hd
      go_wp2_with (first
        | (refine wpList_store_ad rfl (.tmp 2) (.tmp 21) rfl false (List.replicate 16 0) rfl rfl rfl H4.out.1 ?_; intro w6 a6 o6 z6 b6; have H6 := Lib.hid (And.intro a6 (b6 w.heap.size w (Nat.le_refl _) H4.out.2.2.1)); clear a6 o6 z6 b6))
      exact bodyPost_ret (results_ad_tmp rfl _ rfl H6.out.1) rfl (by rw [HP.out]; exact ⟨H6.out.2, rfl⟩)
  | none =>
    rw [h4] at K4' hpv
    clear h4
    cases h6 : six s.data.toList with
    | some bs =>
      rw [h6] at K6' hpv
      simp only [Option.map_some] at hpv
      have HP := Lib.hid hpv
      clear hpv h6
      go_enter Tryz.func108, Tryz.ntmps108
      go_wp2_with (refine wpList_alloc_ad rfl rfl ?_; intro w1 a1 b1 z1; have H1 := Lib.hid (And.intro a1 b1); clear a1 b1 z1)
      refine (K4'.out w1 H1.out.2).out.mono ?_
      rintro e w2 ⟨b2, rfl⟩
      have H2 := Lib.hid (And.intro (H1.out.1.later b2 (Nat.le_refl _)) (H1.out.2.trans (b2.mono H1.out.2.size)))
      clear b2
      go_wp2_with (first
        | (refine wpList_alloc_ad rfl rfl ?_; intro w3 a3 b3 z3; have H3 := Lib.hid (And.intro (H2.out.1.later b3 (Nat.le_refl _)) (And.intro a3 (And.intro (H2.out.2.trans (b3.mono H2.out.2.size)) b3))); clear a3 b3 z3)
        | (refine wpList_store_ad rfl (.tmp 4) (.tmp 9) rfl false (List.replicate 16 0) rfl rfl rfl H3.out.2.1 ?_; intro w4 a4 o4 z4 b4; have H4 := Lib.hid (And.intro (H2.out.1.later (b4 _ _ (Nat.le_refl _) H3.out.2.2.2) (Nat.le_refl _)) (And.intro a4 (And.intro (b4 w.heap.size w H2.out.2.size H3.out.2.2.1) (H2.out.2.size)))); clear a4 o4 z4 b4))
      refine (Is_6 _).mono ?_
      rintro e w5 ⟨rfl, rfl⟩
      go_wp2_with fail
      refine (K6'.out _ H4.out.2.2.1).out.mono ?_
      rintro e w6 ⟨b6, hbs, rfl⟩
      have H6 := Lib.hid (And.intro (H4.out.1.later b6 (Nat.le_refl _)) (And.intro (H4.out.2.1.later b6 (Nat.le_refl _)) (H4.out.2.2.1.trans (b6.mono H4.out.2.2.1.size))))
      clear b6
      go_wp2_with (first
        | (refine wpList_store_ad rfl (.tmp 4) (.tmp 17) rfl true bs rfl rfl hbs H6.out.2.1 ?_; intro w7 a7 o7 z7 b7; have H7 := Lib.hid (And.intro a7 (And.intro (H6.out.1.same (o7 _ (by have := H1.out.1.lt; have := H1.out.2.size; have := H2.out.1.lt; omega))) (b7 w.heap.size w H4.out.2.2.2 H6.out.2.2))); clear a7 o7 z7 b7)
        | (refine wpList_load_ad rfl (.tmp 4) rfl rfl H7.out.1 ?_)
        | (refine wpList_store_ad rfl (.tmp 2) (.tmp 23) rfl true bs rfl rfl hbs H7.out.2.1 ?_; intro w8 a8 o8 z8 b8; have H8 := Lib.hid (And.intro a8 (b8 w.heap.size w (Nat.le_refl _) H7.out.2.2)); clear a8 o8 z8 b8))
      exact bodyPost_ret (results_ad_tmp rfl _ rfl H8.out.1) rfl (by rw [HP.out]; exact ⟨H8.out.2, hbs, rfl⟩)
    | none =>
      rw [h6] at K6' hpv
      simp only [Option.map_none] at hpv
      have HP := Lib.hid hpv
      clear hpv h6
      go_enter Tryz.func108, Tryz.ntmps108
      go_wp2_with (refine wpList_alloc_ad rfl rfl ?_; intro w1 a1 b1 z1; have H1 := Lib.hid (And.intro a1 b1); clear a1 b1 z1)
      refine (K4'.out w1 H1.out.2).out.mono ?_
      rintro e w2 ⟨b2, rfl⟩
      have H2 := Lib.hid (And.intro (H1.out.1.later b2 (Nat.le_refl _)) (H1.out.2.trans (b2.mono H1.out.2.size)))
      clear b2
      go_wp2_with (first
        | (refine wpList_alloc_ad rfl rfl ?_; intro w3 a3 b3 z3; have H3 := Lib.hid (And.intro (H2.out.1.later b3 (Nat.le_refl _)) (And.intro a3 (And.intro (H2.out.2.trans (b3.mono H2.out.2.size)) b3))); clear a3 b3 z3)
        | (refine wpList_store_ad rfl (.tmp 4) (.tmp 9) rfl false (List.replicate 16 0) rfl rfl rfl H3.out.2.1 ?_; intro w4 a4 o4 z4 b4; have H4 := Lib.hid (And.intro (H2.out.1.later (b4 _ _ (Nat.le_refl _) H3.out.2.2.2) (Nat.le_refl _)) (And.intro a4 (And.intro (b4 w.heap.size w H2.out.2.size H3.out.2.2.1) (H2.out.2.size)))); clear a4 o4 z4 b4))
      refine (Is_6 _).mono ?_
      rintro e w5 ⟨rfl, rfl⟩
      go_wp2_with fail
      refine (K6'.out _ H4.out.2.2.1).out.mono ?_
      rintro e w6 ⟨b6, T, xv, rfl⟩
      have H6 := Lib.hid (And.intro (H4.out.1.later b6 (Nat.le_refl _)) (And.intro (H4.out.2.1.later b6 (Nat.le_refl _)) (H4.out.2.2.1.trans (b6.mono H4.out.2.2.1.size))))
      clear b6
      go_wp2_with (first
        | (refine wpList_store_ad rfl (.tmp 4) (.tmp 17) rfl false (List.replicate 16 0) rfl rfl rfl H6.out.2.1 ?_; intro w7 a7 o7 z7 b7; have H7 := Lib.hid (And.intro a7 (And.intro (H6.out.1.same (o7 _ (by have := H1.out.1.lt; have := H1.out.2.size; have := H2.out.1.lt; omega))) (b7 w.heap.size w H4.out.2.2.2 H6.out.2.2))); clear a7 o7 z7 b7)
        | (refine wpList_store_ad rfl (.tmp 2) (.tmp 21) rfl false (List.replicate 16 0) rfl rfl rfl H7.out.2.1 ?_; intro w8 a8 o8 z8 b8; have H8 := Lib.hid (And.intro a8 (b8 w.heap.size w (Nat.le_refl _) H7.out.2.2)); clear a8 o8 z8 b8))
      exact bodyPost_ret (results_ad_tmp rfl _ rfl H8.out.1) rfl (by rw [HP.out]; exact ⟨H8.out.2, rfl⟩)
end Go.Proofs.YtoagfmonfgagbaaGreatDoor
