/-
  stockadelaw07.Ip6Tells answers true, whatever is handed in. Conditions: those of the slices; errors.errorType holds the handle of the type error.
-/
import Derived.Test.YtceigepclemdmaaDoorAwake07
import Derived.Test.YtceigepclemdmaaDoorRefIp6
import Derived.Test.YtceigepclemdmaaDoorRefBuild6
import Derived.Test.YtceigepclemdmaaDoorEqH
namespace Go.Proofs.YtceigepclemdmaaDoor
open Go.RowKit
set_option maxRecDepth 100000

theorem wpList_load_hd_w {ops : Array Oper} {rest : List Oper} {o : Oper} {a : Act} {w : World} {Q : Exit → Act → World → Prop} (hw : Region.wanted o (yielded ops a.tmps) = true) (x : Operand) (ho : o.op = .load 29 x) {g : Nat} {h' : Hd}
    (hx : a.eval x = .pointer (some ⟨g, 0, none⟩)) (hA : HdBox w g h') (h : wpList Tryd.prog ops Q rest (a.put o.dst (.agg (hdv h'))) w) : wpList Tryd.prog ops Q (o :: rest) a w := by
  have h1 := wp_load_mid (P := Tryd.prog) (op := o) (a := a) (w := w) (K := wpList Tryd.prog ops Q rest) (Q := Q) 29 x ho g 0 hx (hdv h').toList _ hA.range Tryd.underlying29 rfl (by rw [Array.length_toList]; exact hd_size hA.2) (by simpa using h)
  unfold wpList
  rw [if_pos hw]
  exact .inl h1
theorem wpList_load_fl_w {ops : Array Oper} {rest : List Oper} {o : Oper} {a : Act} {w : World} {Q : Exit → Act → World → Prop} (hw : Region.wanted o (yielded ops a.tmps) = true) (x : Operand) (ho : o.op = .load 36 x) {g : Nat} {c i : Int} {p : Bool}
    (hx : a.eval x = .pointer (some ⟨g, 0, none⟩)) (hA : FlBox w g c i p) (h : wpList Tryd.prog ops Q rest (a.put o.dst (.agg (flv c i p))) w) : wpList Tryd.prog ops Q (o :: rest) a w := by
  have h1 := wp_load_mid (P := Tryd.prog) (op := o) (a := a) (w := w) (K := wpList Tryd.prog ops Q rest) (Q := Q) 36 x ho g 0 hx (flv c i p).toList _ hA.range Tryd.underlying36 rfl (by rw [Array.length_toList]; exact fl_size c i p) (by simpa using h)
  unfold wpList
  rw [if_pos hw]
  exact .inl h1

set_option maxHeartbeats 16000000 in
theorem ip6Tells {A B : Option Addr} {n c m d : Nat} {l : List UInt8} {zs : List Int} {w : World} (hb : Bs w A n c l) (sv dv : Bool) {sb db : List UInt8} (hsb : sb.length = 16) (hdb : db.length = 16) (proto : Int) (hz : Gs w B m d (zv zs)) (hg : Handle w) :
    Calls Tryd.prog 3 #[.slice A n c, .agg (adv sv sb), .agg (adv dv db), .int .i64 proto, .slice B m d] w fun e w' => e = .returned (.bool true) ∧ Below w.heap.size w w' := by
  have hm := Nat.le_trans hb.cap hb.max
  have hm2 := Nat.le_trans hz.cap hz.max
  unfold maxLen at hm hm2
  have HB := Lib.hid (And.intro hb (And.intro hz hg))
  clear hb hz hg
  have A1 := AdBox.new w sv hsb
  have B1 : Below w.heap.size w (w.alloc (.cells (adv sv sb) 25)) := (Below.refl _ _).alloc (Nat.le_refl _) _
  have A2 := AdBox.new (w.alloc (.cells (adv sv sb) 25)) dv hdb
  rw [World.size_alloc] at A2
  have B2 : Below (w.heap.size + 1) (w.alloc (.cells (adv sv sb) 25)) ((w.alloc (.cells (adv sv sb) 25)).alloc (.cells (adv dv db) 25)) := (Below.refl _ _).alloc (by simp) _
  have hA := And.intro (A1.later B2 (by simp)) (And.intro A2 (B1.trans (B2.mono (by omega))))
  obtain ⟨W, hW⟩ : ∃ W, (w.alloc (.cells (adv sv sb) 25)).alloc (.cells (adv dv db) 25) = W := ⟨_, rfl⟩
  rw [hW] at hA
  have HA := Lib.hid hA
  have HW := Lib.hid hW
  clear A1 B1 A2 B2 hA hW
  by_cases hbig : 2000 < n
  · have hq : (2000 : Int) < (n : Int) := by omega
    have hqd : decide ((2000 : Int) < (n : Int)) = true := decide_eq_true hq
    go_enter Tryd.func3, Tryd.ntmps3
    go_wp2_with fail
    rw [HW.out]
    refine (awake07 _).mono ?_
    rintro e w1 ⟨rfl, b1⟩
    have H1 := Lib.hid (HA.out.2.2.trans (b1.mono HA.out.2.2.size))
    clear b1
    go_wp2_with fail
    go_ret
    exact ⟨rfl, H1.out⟩
  have hqd : decide ((2000 : Int) < (n : Int)) = false := decide_eq_false (by omega)
  by_cases hbig2 : 30 < m
  · have hq : (30 : Int) < (m : Int) := by omega
    have hqe : decide ((30 : Int) < (m : Int)) = true := decide_eq_true hq
    go_enter Tryd.func3, Tryd.ntmps3
    go_wp2_with fail
    rw [HW.out]
    refine (awake07 _).mono ?_
    rintro e w1 ⟨rfl, b1⟩
    have H1 := Lib.hid (HA.out.2.2.trans (b1.mono HA.out.2.2.size))
    clear b1
    go_wp2_with fail
    go_ret
    exact ⟨rfl, H1.out⟩
  have hqe : decide ((30 : Int) < (m : Int)) = false := decide_eq_false (by omega)
  have hok := ip6v_ok (l := l) (n := n) HB.out.1.len
  have K1 : Hid (∀ w1, Below w.heap.size w w1 → Calls Tryd.prog 7 #[.slice A n c] w1 (ParR (ip6v l n) w1)) := fun w1 b => parse_ip6 (HB.out.1.later b (Nat.le_refl _)) (by omega)
  have K2 : Hid (∀ w1, Below w.heap.size w w1 → Calls Tryd.prog 8 #[.slice A n c] w1 (RefR (ip6v l n) w1)) := fun w1 b => ref_ip6 (HB.out.1.later b (Nat.le_refl _)) (by omega)
  have K3 : Hid (∀ w1, Below w.heap.size w w1 → Calls Tryd.prog 9 #[.agg (adv sv sb), .agg (adv dv db), .int .i64 proto, .slice B m d, .slice A n c] w1 (BldR sv dv sb db proto zs n l w1)) := fun w1 b => build_ip6 sv dv hsb hdb proto (HB.out.2.1.later b (Nat.le_refl _)) (HB.out.1.later b (Nat.le_refl _))
  have K4 : Hid (∀ w1, Below w.heap.size w w1 → Calls Tryd.prog 10 #[.agg (adv sv sb), .agg (adv dv db), .int .i64 proto, .slice B m d, .slice A n c] w1 (BldF sv dv sb db proto zs n l w1)) := fun w1 b => ref_build6 sv dv hsb hdb proto (HB.out.2.1.later b (Nat.le_refl _)) (HB.out.1.later b (Nat.le_refl _)) (by omega) (by omega)
  unfold ParR at K1
  unfold RefR at K2
  unfold BldR at K3
  unfold BldF at K4
  generalize ip6v l n = r at hok K1 K2
  generalize build6v sv dv sb db proto zs n l = bl at K3 K4
  generalize build6e sv dv proto zs n = be at K3 K4
  obtain ⟨h0, f0⟩ := r
  obtain ⟨fc, fa, fp⟩ := f0
  obtain ⟨gc, ga, gp⟩ := be
  dsimp only at hok K1 K2 K3 K4
  have he1 : ∀ w, (binOp .eql 29 (.agg (hdv h0)) (.agg (hdv h0))).run Tryd.prog w = .ok (.bool true) w := fun w => eql_hd hok w
  clear hbig hbig2
  go_enter Tryd.func3, Tryd.ntmps3
  go_wp2_with fail
  rw [HW.out]
  refine (K1.out _ HA.out.2.2).mono ?_
  rintro e w2 ⟨v2, rfl, t2, b2⟩
  have H2 := Lib.hid (And.intro (HA.out.1.later b2 (Nat.le_refl _)) (And.intro (HA.out.2.1.later b2 (Nat.le_refl _)) (And.intro (t2) (HA.out.2.2.trans (b2.mono HA.out.2.2.size)))))
  clear b2 t2
  go_wp2_with (first
    | (refine wpList_alloc_hd rfl rfl ?_; intro w3 a3 b3 z3; have H3 := Lib.hid (And.intro a3 b3); clear a3 b3 z3)
    | (refine wpList_store_hd rfl (.tmp 11) (.tmp 31) rfl h0 rfl rfl hok H3.out.1 ?_; intro w4 a4 o4 z4 b4; have bb := b4 _ _ (Nat.le_refl _) H3.out.2; have H4 := Lib.hid (And.intro (H2.out.1.later bb (Nat.le_refl _)) (And.intro (H2.out.2.1.later bb (Nat.le_refl _)) (And.intro (H2.out.2.2.1.later bb (Nat.le_refl _)) (And.intro (a4) (H2.out.2.2.2.trans (bb.mono H2.out.2.2.2.size)))))); clear a4 o4 z4 b4 bb))
  refine (K2.out _ H4.out.2.2.2.2).mono ?_
  rintro e w5 ⟨rfl, b5⟩
  have H5 := Lib.hid (And.intro (H4.out.1.later b5 (Nat.le_refl _)) (And.intro (H4.out.2.1.later b5 (Nat.le_refl _)) (And.intro (H4.out.2.2.1.later b5 (Nat.le_refl _)) (And.intro (H4.out.2.2.2.1.later b5 (Nat.le_refl _)) (H4.out.2.2.2.2.trans (b5.mono H4.out.2.2.2.2.size))))))
  clear b5
  go_wp2_with (first
    | (refine wpList_alloc_hd rfl rfl ?_; intro w6 a6 b6 z6; have H6 := Lib.hid (And.intro a6 b6); clear a6 b6 z6)
    | (refine wpList_alloc_fl rfl rfl ?_; intro w7 a7 b7 z7; have H7 := Lib.hid (And.intro (H6.out.1.later b7 (Nat.le_refl _)) (And.intro a7 (H6.out.2.trans (b7.mono H6.out.2.size)))); clear a7 b7 z7)
    | (refine wpList_store_hd rfl (.tmp 13) (.tmp 36) rfl h0 rfl rfl hok H7.out.1 ?_; intro w8 a8 o8 z8 b8; have H8 := Lib.hid (And.intro a8 (And.intro (H7.out.2.1.same (o8 _ (Nat.ne_of_lt H6.out.1.lt).symm)) (b8 w5.heap.size w5 (Nat.le_refl _) H7.out.2.2))); clear a8 o8 z8 b8)
    | (refine wpList_store_fl rfl (.tmp 14) (.tmp 37) rfl fc fa fp rfl rfl H8.out.2.1 ?_; intro w9 a9 o9 z9 b9; have bb := b9 w5.heap.size w5 H6.out.2.size H8.out.2.2; have H9 := Lib.hid (And.intro (H5.out.1.later bb (Nat.le_refl _)) (And.intro (H5.out.2.1.later bb (Nat.le_refl _)) (And.intro (H5.out.2.2.1.later bb (Nat.le_refl _)) (And.intro (H5.out.2.2.2.1.later bb (Nat.le_refl _)) (And.intro (H8.out.1.same (o9 _ (Nat.ne_of_lt H6.out.1.lt))) (And.intro (a9) (H5.out.2.2.2.2.trans (bb.mono H5.out.2.2.2.2.size)))))))); clear a9 o9 z9 b9 bb)
    | (refine wpList_load_ad rfl (.tmp 6) rfl rfl H9.out.1 ?_)
    | (refine wpList_load_ad rfl (.tmp 7) rfl rfl H9.out.2.1 ?_))
  refine (K3.out _ H9.out.2.2.2.2.2.2).mono ?_
  rintro e w10 ⟨A1, n1, c1, v10, rfl, q10, t10, b10⟩
  have H10 := Lib.hid (And.intro (H9.out.1.later b10 (Nat.le_refl _)) (And.intro (H9.out.2.1.later b10 (Nat.le_refl _)) (And.intro (H9.out.2.2.1.later b10 (Nat.le_refl _)) (And.intro (H9.out.2.2.2.1.later b10 (Nat.le_refl _)) (And.intro (H9.out.2.2.2.2.1.later b10 (Nat.le_refl _)) (And.intro (H9.out.2.2.2.2.2.1.later b10 (Nat.le_refl _)) (And.intro (q10) (And.intro (t10) (H9.out.2.2.2.2.2.2.trans (b10.mono H9.out.2.2.2.2.2.2.size))))))))))
  clear b10 q10 t10
  go_wp2_with (first
    | (refine wpList_load_ad rfl (.tmp 6) rfl rfl H10.out.1 ?_)
    | (refine wpList_load_ad rfl (.tmp 7) rfl rfl H10.out.2.1 ?_))
  refine (K4.out _ H10.out.2.2.2.2.2.2.2.2).mono ?_
  rintro e w11 ⟨A2, n2, c2, rfl, q11, b11⟩
  have H11 := Lib.hid (And.intro (H10.out.1.later b11 (Nat.le_refl _)) (And.intro (H10.out.2.1.later b11 (Nat.le_refl _)) (And.intro (H10.out.2.2.1.later b11 (Nat.le_refl _)) (And.intro (H10.out.2.2.2.1.later b11 (Nat.le_refl _)) (And.intro (H10.out.2.2.2.2.1.later b11 (Nat.le_refl _)) (And.intro (H10.out.2.2.2.2.2.1.later b11 (Nat.le_refl _)) (And.intro (H10.out.2.2.2.2.2.2.1.later b11 (Nat.le_refl _)) (And.intro (H10.out.2.2.2.2.2.2.2.1.later b11 (Nat.le_refl _)) (And.intro (q11) (H10.out.2.2.2.2.2.2.2.2.trans (b11.mono H10.out.2.2.2.2.2.2.2.2.size)))))))))))
  clear b11 q11
  go_wp2_with (first
    | (refine wpList_alloc_fl rfl rfl ?_; intro w12 a12 b12 z12; have H12 := Lib.hid (And.intro a12 b12); clear a12 b12 z12)
    | (refine wpList_store_fl rfl (.tmp 18) (.tmp 55) rfl gc ga gp rfl rfl H12.out.1 ?_; intro w13 a13 o13 z13 b13; have bb := b13 _ _ (Nat.le_refl _) H12.out.2; have H13 := Lib.hid (And.intro (H11.out.1.later bb (Nat.le_refl _)) (And.intro (H11.out.2.1.later bb (Nat.le_refl _)) (And.intro (H11.out.2.2.1.later bb (Nat.le_refl _)) (And.intro (H11.out.2.2.2.1.later bb (Nat.le_refl _)) (And.intro (H11.out.2.2.2.2.1.later bb (Nat.le_refl _)) (And.intro (H11.out.2.2.2.2.2.1.later bb (Nat.le_refl _)) (And.intro (H11.out.2.2.2.2.2.2.1.later bb (Nat.le_refl _)) (And.intro (H11.out.2.2.2.2.2.2.2.1.later bb (Nat.le_refl _)) (And.intro (H11.out.2.2.2.2.2.2.2.2.1.later bb (Nat.le_refl _)) (And.intro (a13) (H11.out.2.2.2.2.2.2.2.2.2.trans (bb.mono H11.out.2.2.2.2.2.2.2.2.2.size)))))))))))); clear a13 o13 z13 b13 bb))
  refine (awake07 _).mono ?_
  rintro e w14 ⟨rfl, b14⟩
  have H14 := Lib.hid (And.intro (H13.out.1.later b14 (Nat.le_refl _)) (And.intro (H13.out.2.1.later b14 (Nat.le_refl _)) (And.intro (H13.out.2.2.1.later b14 (Nat.le_refl _)) (And.intro (H13.out.2.2.2.1.later b14 (Nat.le_refl _)) (And.intro (H13.out.2.2.2.2.1.later b14 (Nat.le_refl _)) (And.intro (H13.out.2.2.2.2.2.1.later b14 (Nat.le_refl _)) (And.intro (H13.out.2.2.2.2.2.2.1.later b14 (Nat.le_refl _)) (And.intro (H13.out.2.2.2.2.2.2.2.1.later b14 (Nat.le_refl _)) (And.intro (H13.out.2.2.2.2.2.2.2.2.1.later b14 (Nat.le_refl _)) (And.intro (H13.out.2.2.2.2.2.2.2.2.2.1.later b14 (Nat.le_refl _)) (H13.out.2.2.2.2.2.2.2.2.2.2.trans (b14.mono H13.out.2.2.2.2.2.2.2.2.2.2.size))))))))))))
  clear b14
  go_wp2_with (first
    | (refine wpList_load_hd_w (by rfl) (.tmp 11) rfl rfl H14.out.2.2.2.1 ?_)
    | (refine wpList_load_hd_w (by rfl) (.tmp 13) rfl rfl H14.out.2.2.2.2.1 ?_)
    | (refine wpList_load_fl_w (by rfl) (.tmp 14) rfl rfl H14.out.2.2.2.2.2.1 ?_))
  refine (is_told3 H14.out.2.2.1 (Handle.later H14.out.2.2.2.2.2.2.2.2.2.2 (Nat.le_refl _) HB.out.2.2)).mono ?_
  rintro e w15 ⟨rfl, b15⟩
  have H15 := Lib.hid (And.intro (H14.out.1.later b15 (Nat.le_refl _)) (And.intro (H14.out.2.1.later b15 (Nat.le_refl _)) (And.intro (H14.out.2.2.1.later b15 (Nat.le_refl _)) (And.intro (H14.out.2.2.2.1.later b15 (Nat.le_refl _)) (And.intro (H14.out.2.2.2.2.1.later b15 (Nat.le_refl _)) (And.intro (H14.out.2.2.2.2.2.1.later b15 (Nat.le_refl _)) (And.intro (H14.out.2.2.2.2.2.2.1.later b15 (Nat.le_refl _)) (And.intro (H14.out.2.2.2.2.2.2.2.1.later b15 (Nat.le_refl _)) (And.intro (H14.out.2.2.2.2.2.2.2.2.1.later b15 (Nat.le_refl _)) (And.intro (H14.out.2.2.2.2.2.2.2.2.2.1.later b15 (Nat.le_refl _)) (H14.out.2.2.2.2.2.2.2.2.2.2.trans (b15.mono H14.out.2.2.2.2.2.2.2.2.2.2.size))))))))))))
  clear b15
  go_wp2_with fail
  refine (bytes_same H15.out.2.2.2.2.2.2.1 H15.out.2.2.2.2.2.2.2.2.1).mono ?_
  rintro e w' ⟨rfl, rfl⟩
  go_wp2_with (refine wpList_load_fl_w (by rfl) (.tmp 18) rfl rfl H15.out.2.2.2.2.2.2.2.2.2.1 ?_)
  refine (is_told3 H15.out.2.2.2.2.2.2.2.1 (Handle.later H15.out.2.2.2.2.2.2.2.2.2.2 (Nat.le_refl _) HB.out.2.2)).mono ?_
  rintro e w16 ⟨rfl, b16⟩
  have H16 := Lib.hid (And.intro (H15.out.1.later b16 (Nat.le_refl _)) (And.intro (H15.out.2.1.later b16 (Nat.le_refl _)) (And.intro (H15.out.2.2.1.later b16 (Nat.le_refl _)) (And.intro (H15.out.2.2.2.1.later b16 (Nat.le_refl _)) (And.intro (H15.out.2.2.2.2.1.later b16 (Nat.le_refl _)) (And.intro (H15.out.2.2.2.2.2.1.later b16 (Nat.le_refl _)) (And.intro (H15.out.2.2.2.2.2.2.1.later b16 (Nat.le_refl _)) (And.intro (H15.out.2.2.2.2.2.2.2.1.later b16 (Nat.le_refl _)) (And.intro (H15.out.2.2.2.2.2.2.2.2.1.later b16 (Nat.le_refl _)) (And.intro (H15.out.2.2.2.2.2.2.2.2.2.1.later b16 (Nat.le_refl _)) (H15.out.2.2.2.2.2.2.2.2.2.2.trans (b16.mono H15.out.2.2.2.2.2.2.2.2.2.2.size))))))))))))
  clear b16
  go_wp2_with fail
  go_ret
  exact ⟨rfl, H16.out.2.2.2.2.2.2.2.2.2.2⟩
end Go.Proofs.YtceigepclemdmaaDoor
