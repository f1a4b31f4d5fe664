/-
  stockadelaw09.UdpLengths answers true, whatever is handed in. Conditions: those of the slice; the byte is one; errors.errorType holds the handle of the type error.
-/
import Derived.Test.YtkeggeiliachgaaDoorZ28
import Derived.Test.YtkeggeiliachgaaDoorZ01
import Derived.Test.YtkeggeiliachgaaDoorZ08
import Derived.Test.YtkeggeiliachgaaDoorZ07
import Derived.Deep.DeepCutAuto
import Derived.IntWalk
namespace Go.Proofs.YtkeggeiliachgaaDoor
open Go.RowKit
set_option maxRecDepth 100000

theorem xor_same (p x y : UInt8) (h : y = 0) (hx : p ^^^ y = x) : x = p := by subst h; subst hx; exact UInt8.xor_zero
set_option maxHeartbeats 16000000 in
theorem udpLengths {B : Option Addr} {m d : Nat} {s : Dg} {w : World} (hp : Bs w B m d s.pay) (n at_ : Int) (y : UInt8) (hg : Handle w) :
    Calls Tryd.prog 5 #[.agg (dgv s B m d), .int .i64 n, .int .i64 at_, .int .u8 y.toNat] w fun e w' => e = .returned (.bool true) ∧ Below w.heap.size w w' := by
  have hm2 := Nat.le_trans hp.cap hp.max
  have hmd := hp.cap
  have hpl := hp.len
  unfold maxLen at hm2
  have HB := Lib.hid (And.intro hp hg)
  clear hp hg
  have s0 := DgBox.new w s B m d
  have b0 : Below w.heap.size w (w.alloc (.cells (dgv s B m d) 27)) := (Below.refl _ _).alloc (Nat.le_refl _) _
  obtain ⟨W, hW⟩ : ∃ W, w.alloc (.cells (dgv s B m d) 27) = W := ⟨_, rfl⟩
  rw [hW] at s0 b0
  have HA := Lib.hid (And.intro s0 b0)
  obtain ⟨sp, dp, pay⟩ := s
  unfold dgv at hW
  dsimp only at hW hpl
  have HW := Lib.hid hW
  have d0 := s0.cell 0
  have d1 := s0.cell 1
  have d2 := s0.cell 2
  dsimp only [dgv] at d0 d1 d2
  simp only [List.getElem?_toArray, List.getElem?_cons_zero, List.getElem?_cons_succ] at d0 d1 d2
  have f0 := s0.frozen 0
  have f1 := s0.frozen 1
  clear s0 b0 hW
  rw [show dgv ⟨sp, dp, pay⟩ B m d = #[.int .i64 sp, .int .i64 dp, .slice B m d] from rfl]
  by_cases hbig : 500 < m
  · have hqd : decide ((500 : Int) < (m : Int)) = true := decide_eq_true (by omega)
    go_enter Tryd.func5, Tryd.ntmps5
    go_wp2_with fail
    rw [HW.out]
    refine (awake09 _).mono ?_
    rintro e w1 ⟨rfl, b1⟩
    have H1 := Lib.hid (HA.out.2.trans (b1.mono HA.out.2.size))
    clear b1
    go_wp2_with fail
    go_ret
    exact ⟨rfl, H1.out⟩
  have hqd : decide ((500 : Int) < (m : Int)) = false := decide_eq_false (by omega)
  obtain ⟨p1, p2⟩ := num_mod8 sp 65536 (by omega) (by omega)
  obtain ⟨p3, p4⟩ := num_mod8 dp 65536 (by omega) (by omega)
  obtain ⟨N0, hN0⟩ : ∃ N0, 8 + m = N0 := ⟨_, rfl⟩
  have hN1 : 8 ≤ N0 ∧ N0 ≤ 508 := by omega
  obtain ⟨p5, p6⟩ := num_mod8 n ((N0 : Int) + 20) (by omega) (by omega)
  obtain ⟨p7, p8⟩ := num_mod8 at_ (N0 : Int) (by omega) (by omega)
  go_enter Tryd.func5, Tryd.ntmps5
  go_upto_region 3 with fail
  rw [HW.out]
  go_upto_region 4 with fail
  clear d0 d1 d2 f0 f1
  generalize wrap64 ((IntKind.u64.wrap sp).tmod 65536) = sp1 at p1 p2 ⊢
  generalize wrap64 ((IntKind.u64.wrap dp).tmod 65536) = dp1 at p3 p4 ⊢
  have x1 := (HA.out.1.putSp sp1).putDp dp1
  have hB := (HA.out.2.setCell (p := ⟨w.heap.size, 0, none⟩) (Nat.le_refl _) (.int .i64 sp1)).setCell (p := ⟨w.heap.size, 1, none⟩) (Nat.le_refl _) (.int .i64 dp1)
  generalize (W.setCell ⟨w.heap.size, 0, none⟩ (.int .i64 sp1)).setCell ⟨w.heap.size, 1, none⟩ (.int .i64 dp1) = W6 at x1 hB ⊢
  have H4 := Lib.hid (And.intro x1 hB)
  clear x1 hB
  have hmt : mayD ⟨sp1, dp1, pay⟩ := ⟨⟨p1, by dsimp only; omega⟩, ⟨p3, by dsimp only; omega⟩, by dsimp only; omega⟩
  have HM := Lib.hid hmt
  have k3 := fun w1 (b : Below w.heap.size w w1) => buildU_ok (s := ⟨sp1, dp1, pay⟩) hmt (HB.out.1.later b (Nat.le_refl _)) false false (sb := zad) (db := zad) rfl rfl
  rw [hN0] at k3
  have K3 := Lib.hid k3
  have HL := Lib.hid (show N0 = 8 + (⟨sp1, dp1, pay⟩ : Dg).pay.length by dsimp only; omega)
  have hN2 : (N0 : Int) ≠ 0 ∧ (N0 : Int) + 20 ≠ 0 := by omega
  have hN3 := hN2.1
  have hN4 := hN2.2
  have HN5 := Lib.hid (show N0 = 8 + m by omega)
  clear k3 hmt p1 p2 p3 p4 hN2 hN0
  go_wp2_with (refine wpList_load_dg rfl (.tmp 4) rfl rfl H4.out.1 ?_)
  refine (K3.out _ H4.out.2).mono ?_
  rintro e w7 ⟨A7, c7, rfl, q7, b7⟩
  have H7 := Lib.hid (And.intro (H4.out.1.later b7 (Nat.le_refl _)) (And.intro (q7) (H4.out.2.trans (b7.mono H4.out.2.size))))
  clear q7 b7
  go_wp2_with fail
  refine (awake09 _).mono ?_
  rintro e w8 ⟨rfl, b8⟩
  have H8 := Lib.hid (And.intro (H7.out.1.later b8 (Nat.le_refl _)) (And.intro (H7.out.2.1.later b8 (Nat.le_refl _)) (H7.out.2.2.trans (b8.mono H7.out.2.2.size))))
  clear b8
  obtain ⟨tb, htb⟩ : ∃ tb, udpB (aheadL false zad zad 17 N0) ⟨sp1, dp1, pay⟩ = tb := ⟨_, rfl⟩
  rw [htb] at H8
  have HT := Lib.hid htb
  clear htb
  go_upto_region 8 with fail
  generalize wrap64 ((IntKind.u64.wrap n).tmod ((N0 : Int) + 20)) = nn at p5 p6 ⊢
  obtain ⟨kn, rfl⟩ := Int.eq_ofNat_of_zero_le p5
  have u4 : (4 : Int) < (N0 : Int) := by omega
  have u5 : (5 : Int) < (N0 : Int) := by omega
  go_upto_region 10 with (at_builtin; refine wpList_append_bs rfl (.const (.slice none 0 0)) (.tmp 56) 22 rfl w8.heap.size 5 info5 Tryd.underlying22 _ 0 [] rfl (World.ownsRow_nil _ _ _ _) _ N0 c7 _ rfl H8.out.2.1 (by omega) (Nat.le_refl _) ?_; intro v15 w15 o15 g15 _ _; have b15 : Below w8.heap.size w8 w15 := (Below.refl _ w8).grown g15 (Nat.le_refl _) (fun x hx => by cases hx); replace o15 := owns_n (n' := N0) (by omega) o15; rw [List.nil_append] at o15; obtain ⟨gw, cw, rfl, _, _⟩ := o15.form (by omega); obtain ⟨⟨p4', _, hc4⟩, hf4⟩ := own_cell o15 (j := 4) (by omega); obtain ⟨⟨p5', _, hc5⟩, hf5⟩ := own_cell o15 (j := 5) (by omega); obtain ⟨s1, s2⟩ := own_put o15 b15 (Nat.le_refl _) 4 (.int .u8 ((kn : Int) / 256)) (UInt8.ofNat (kn / 256)) (congrArg (Value.int IntKind.u8) (by simp only [UInt8.toNat_ofNat']; omega)); obtain ⟨s3, s4⟩ := own_put s1 s2 (Nat.le_refl _) 5 (.int .u8 ((kn : Int) % 256)) (UInt8.ofNat (kn % 256)) (congrArg (Value.int IntKind.u8) (by simp only [UInt8.toNat_ofNat']; omega)); have H15 := Lib.hid (And.intro s3 s4); clear o15 g15 b15 s1 s2 s3 s4)
  generalize (w15.setCell ⟨gw, 4, none⟩ (.int .u8 ((kn : Int) / 256))).setCell ⟨gw, 5, none⟩ (.int .u8 ((kn : Int) % 256)) = w16 at H15 ⊢
  obtain ⟨_, _, e15, hB15⟩ := Bs.of_own H15.out.1
  cases e15
  have s16 := H15.out.2
  have H16 := Lib.hid (And.intro (H8.out.1.later s16 (Nat.le_refl _)) (And.intro (H8.out.2.1.later s16 (Nat.le_refl _)) (And.intro (hB15) (H8.out.2.2.trans (s16.mono H8.out.2.2.size)))))
  clear hB15 s16 hc4 hf4 hc5 hf5
  have hkv : (UInt8.ofNat (kn / 256)).toNat * 256 + (UInt8.ofNat (kn % 256)).toNat = kn := by simp only [UInt8.toNat_ofNat']; omega
  have HKV := Lib.hid hkv
  clear hkv
  go_wp2_with fail
  refine (mendedU_any H16.out.2.2.1 (by omega) false false (sb := zad) (db := zad) rfl rfl).mono ?_
  rintro e w17 ⟨A17, c17, rfl, q17, b17⟩
  have H17 := Lib.hid (And.intro (H16.out.1.later b17 (Nat.le_refl _)) (And.intro (H16.out.2.1.later b17 (Nat.le_refl _)) (And.intro (q17) (H16.out.2.2.2.trans (b17.mono H16.out.2.2.2.size)))))
  clear q17 b17
  go_wp2_with fail
  have hMM := H17.out.2.2.1
  rw [← HT.out] at hMM
  have HMM := Lib.hid hMM
  clear hMM
  by_cases hbad : kn < 8 ∨ N0 < kn
  · have k18 := parseU_bad HM.out HL.out HKV.out hbad HMM.out
    refine k18.mono ?_
    rintro e w18 ⟨A18, n18, c18, v18, rfl, q18, t18, b18⟩
    obtain ⟨T18, x18, rfl⟩ := Tells.held' t18 (by simp)
    have H18 := Lib.hid (And.intro (H17.out.1.later b18 (Nat.le_refl _)) (And.intro (H17.out.2.1.later b18 (Nat.le_refl _)) (And.intro (t18) (H17.out.2.2.2.trans (b18.mono H17.out.2.2.2.size)))))
    clear k18 t18 b18 q18
    have q8 : (kn : Int) < 8 ∨ (¬ (kn : Int) < 8 ∧ (N0 : Int) < (kn : Int)) := by omega
    clear hbad
    rcases q8 with q8 | ⟨q8, q9⟩
    all_goals
      go_wp2_with (first
        | (refine wpList_alloc_dg rfl rfl ?_; intro w19 a19 b19 z19; have H19 := Lib.hid (And.intro a19 b19); clear a19 b19 z19)
        | (refine wpList_store_dg rfl (.tmp 12) (.tmp 75) rfl .zero A18 n18 c18 rfl rfl H19.out.1 ?_; intro w20 a20 o20 z20 b20; have bb := b20 _ _ (Nat.le_refl _) H19.out.2; have H20 := Lib.hid (And.intro (H18.out.1.later bb (Nat.le_refl _)) (And.intro (H18.out.2.1.later bb (Nat.le_refl _)) (And.intro (H18.out.2.2.1.later bb (Nat.le_refl _)) (H18.out.2.2.2.trans (bb.mono H18.out.2.2.2.size))))); clear a20 o20 z20 b20 bb))
      refine (help_at 7 4 _).mono ?_
      rintro e w21 ⟨rfl, b21⟩
      have H21 := Lib.hid (And.intro (H20.out.1.later b21 (Nat.le_refl _)) (And.intro (H20.out.2.1.later b21 (Nat.le_refl _)) (And.intro (H20.out.2.2.1.later b21 (Nat.le_refl _)) (H20.out.2.2.2.trans (b21.mono H20.out.2.2.2.size)))))
      clear b21
      go_wp2_with fail
      refine (is_told3 H21.out.2.2.1 (Handle.later H21.out.2.2.2 (Nat.le_refl _) HB.out.2)).mono ?_
      rintro e w22 ⟨rfl, b22⟩
      have H22 := Lib.hid (And.intro (H21.out.1.later b22 (Nat.le_refl _)) (And.intro (H21.out.2.1.later b22 (Nat.le_refl _)) (And.intro (H21.out.2.2.1.later b22 (Nat.le_refl _)) (H21.out.2.2.2.trans (b22.mono H21.out.2.2.2.size)))))
      clear b22
      go_wp2_with fail
      go_ret
      exact ⟨rfl, H22.out.2.2.2⟩
  have q8 : ¬ (kn : Int) < 8 := by omega
  have q9 : ¬ (N0 : Int) < (kn : Int) := by omega
  have h8 : 8 ≤ kn := by omega
  have hkn : kn ≤ N0 := by omega
  have k18 := parseU_cut HM.out HL.out HKV.out h8 hkn HMM.out
  refine k18.mono ?_
  rintro e w18 ⟨x, A18, n18, c18, rfl, hx, q18, b18⟩
  rw [hx] at q18
  dsimp only at q18
  have HX := Lib.hid hx
  have H18 := Lib.hid (And.intro (H17.out.1.later b18 (Nat.le_refl _)) (And.intro (H17.out.2.1.later b18 (Nat.le_refl _)) (And.intro (q18) (H17.out.2.2.2.trans (b18.mono H17.out.2.2.2.size)))))
  clear hbad k18 q18 b18 hx
  go_upto_region 15 with (first
    | (refine wpList_alloc_dg rfl rfl ?_; intro w19 a19 b19 z19; have H19 := Lib.hid (And.intro a19 b19); clear a19 b19 z19)
    | (refine wpList_store_dg rfl (.tmp 12) (.tmp 75) rfl x A18 n18 c18 rfl rfl H19.out.1 ?_; intro w20 a20 o20 z20 b20; have bb := b20 _ _ (Nat.le_refl _) H19.out.2; have H20 := Lib.hid (And.intro (H18.out.1.later bb (Nat.le_refl _)) (And.intro (H18.out.2.1.later bb (Nat.le_refl _)) (And.intro (H18.out.2.2.1.later bb (Nat.le_refl _)) (And.intro (a20) (H18.out.2.2.2.trans (bb.mono H18.out.2.2.2.size)))))); clear a20 o20 z20 b20 bb)
    | (at_builtin; refine wpList_append_bs rfl (.const (.slice none 0 0)) (.tmp 88) 22 rfl w20.heap.size 5 info5 Tryd.underlying22 _ 0 [] rfl (World.ownsRow_nil _ _ _ _) _ N0 c7 _ rfl H20.out.2.1 (by omega) (Nat.le_refl _) ?_; intro v21 w21 o21 g21 _ _; have b21 : Below w20.heap.size w20 w21 := (Below.refl _ w20).grown g21 (Nat.le_refl _) (fun x hx => by cases hx); replace o21 := owns_n (n' := N0) (by omega) o21; rw [List.nil_append] at o21; obtain ⟨gv, cv, rfl, _, _⟩ := o21.form (by omega); have H21 := Lib.hid (And.intro o21 b21); clear o21 g21 b21))
  generalize wrap64 ((IntKind.u64.wrap at_).tmod (N0 : Int)) = an at p7 p8 ⊢
  obtain ⟨j, rfl⟩ := Int.eq_ofNat_of_zero_le p7
  have h21 := H21.out.2
  have H22 := Lib.hid (And.intro (H20.out.1.later h21 (Nat.le_refl _)) (And.intro (H20.out.2.1.later h21 (Nat.le_refl _)) (And.intro (H20.out.2.2.1.later h21 (Nat.le_refl _)) (And.intro (H20.out.2.2.2.1.later h21 (Nat.le_refl _)) (H20.out.2.2.2.2.trans (h21.mono H20.out.2.2.2.2.size))))))
  clear h21
  have qj : j < N0 := by omega
  obtain ⟨⟨pj, hpj, hcj⟩, hfj⟩ := own_cell H21.out.1 qj
  obtain ⟨xj, hxj⟩ : ∃ xj, pj ^^^ y = xj := ⟨_, rfl⟩
  have hxo := xor_u8 pj y
  rw [hxj] at hxo
  have HJ := Lib.hid (And.intro hpj hxj)
  clear hpj hxj
  have hj3 : (j : Int) < 4 ∨ (¬ (j : Int) < 4 ∧ (7 : Int) < (j : Int)) ∨ (¬ (j : Int) < 4 ∧ ¬ (7 : Int) < (j : Int)) := by omega
  have hy2 : y = 0 ∨ y ≠ 0 := Decidable.em _
  rcases hj3 with hj1 | ⟨hj1, hj2⟩ | ⟨hj1, hj2⟩
  · go_upto_region 17 with fail
    obtain ⟨s1, s2⟩ := own_put H21.out.1 H21.out.2 (Nat.le_refl _) j (.int .u8 xj.toNat) xj rfl
    generalize w21.setCell ⟨gv, j, none⟩ (.int .u8 xj.toNat) = w23 at s1 s2 ⊢
    obtain ⟨_, _, e23, hB23⟩ := Bs.of_own s1
    cases e23
    have H23 := Lib.hid (And.intro (H20.out.1.later s2 (Nat.le_refl _)) (And.intro (H20.out.2.1.later s2 (Nat.le_refl _)) (And.intro (H20.out.2.2.1.later s2 (Nat.le_refl _)) (And.intro (H20.out.2.2.2.1.later s2 (Nat.le_refl _)) (And.intro (hB23) (H20.out.2.2.2.2.trans (s2.mono H20.out.2.2.2.2.size)))))))
    clear s1 s2 hB23 hcj hfj hxo
    have hWW := H23.out.2.2.2.2.1
    rw [← HT.out] at hWW
    have HWW := Lib.hid hWW
    clear hWW
    rcases hy2 with hy | hy
    · go_wp2_with fail
      have k24 := parseU_turned HM.out HL.out (j := j) (by omega) (by rw [HT.out]; exact HJ.out.1) HWW.out
      rw [if_pos (xor_same _ _ _ hy HJ.out.2)] at k24
      refine k24.mono ?_
      rintro e w24 ⟨x24, A24, n24, c24, v24, rfl, t24, b24⟩
      obtain rfl := Tells.none' t24 rfl
      have H24 := Lib.hid (And.intro (H23.out.1.later b24 (Nat.le_refl _)) (And.intro (H23.out.2.1.later b24 (Nat.le_refl _)) (And.intro (H23.out.2.2.1.later b24 (Nat.le_refl _)) (And.intro (H23.out.2.2.2.1.later b24 (Nat.le_refl _)) (H23.out.2.2.2.2.2.trans (b24.mono H23.out.2.2.2.2.2.size))))))
      clear k24 t24 b24
      have hy3 : (y.toNat : Int) = 0 := by rw [hy]; rfl
      go_wp2_with (first
        | (refine wpList_alloc_dg rfl rfl ?_; intro w25 a25 b25 z25; have H25 := Lib.hid (And.intro a25 b25); clear a25 b25 z25)
        | (refine wpList_store_dg rfl (.tmp 15) (.tmp 115) rfl x24 A24 n24 c24 rfl rfl H25.out.1 ?_; intro w26 a26 o26 z26 b26; have bb := b26 _ _ (Nat.le_refl _) H25.out.2; have H26 := Lib.hid (And.intro (H24.out.1.later bb (Nat.le_refl _)) (And.intro (H24.out.2.1.later bb (Nat.le_refl _)) (And.intro (H24.out.2.2.1.later bb (Nat.le_refl _)) (And.intro (H24.out.2.2.2.1.later bb (Nat.le_refl _)) (H24.out.2.2.2.2.trans (bb.mono H24.out.2.2.2.2.size)))))); clear a26 o26 z26 b26 bb))
      have rcz : ∀ w', Below w26.heap.size w26 w' → w'.cell? ⟨w18.heap.size, 2, none⟩ = some (.slice A18 n18 c18) := fun w' h => (H26.out.2.2.2.1.later h (Nat.le_refl _)).cell 2
      have rcd : ∀ w', Below w26.heap.size w26 w' → w'.cell? ⟨w.heap.size, 2, none⟩ = some (.slice B m d) := fun w' h => (H26.out.1.later h (Nat.le_refl _)).cell 2
      have hS : Below w26.heap.size w26 w26.drew := (Below.refl _ _).drew
      have hkd : kn - 8 ≤ d := by have := HN5.out; omega
      have e8 : IntKind.i64.wrap ((kn : Int) - 8) = ((kn - 8 : Nat) : Int) := by rw [IntKind.wrap_i64]; omega
      have E8 := Lib.hid e8
      clear e8
      refine rg_begin (fun w' => Below w26.heap.size w26 w') 29 (by kernel_rfl) rfl ?_
      refine rg_take 0 (v := ?rv1) rfl (by kernel_rfl) (by kernel_rfl) (by kernel_rfl) (fun _ _ _ h => h) (by rfl) hS (fun w2 hw2 => ?ry1) ?rr1
      case ry1 => ((try dsimp only at hw2); go_simp <;> with_reducible rfl)
      simp only [Act.put, List.setIfInBounds_toArray, List.set_cons_zero, List.set_cons_succ]
      refine rg_take 1 (v := ?rv2) rfl (by kernel_rfl) (by kernel_rfl) (by kernel_rfl) (fun _ _ _ h => h) (by rfl) hS (fun w2 hw2 => ?ry2) ?rr2
      case ry2 => ((try dsimp only at hw2); go_simp <;> with_reducible rfl)
      simp only [Act.put, List.setIfInBounds_toArray, List.set_cons_zero, List.set_cons_succ]
      refine rg_take 2 (v := ?rv3) rfl (by kernel_rfl) (by kernel_rfl) (by kernel_rfl) (fun _ _ _ h => h) (by rfl) hS (fun w2 hw2 => ?ry3) ?rr3
      case ry3 => ((try dsimp only at hw2); go_simp <;> with_reducible rfl)
      simp only [Act.put, List.setIfInBounds_toArray, List.set_cons_zero, List.set_cons_succ]
      refine rg_take 3 (v := ?rv4) rfl (by kernel_rfl) (by kernel_rfl) (by kernel_rfl) (fun _ _ _ h => h) (by rfl) hS (fun w2 hw2 => ?ry4) ?rr4
      case ry4 => ((try dsimp only at hw2); go_simp <;> with_reducible rfl)
      simp only [Act.put, List.setIfInBounds_toArray, List.set_cons_zero, List.set_cons_succ]
      refine rg_take 5 (v := ?rv5) rfl (by kernel_rfl) (by kernel_rfl) (by kernel_rfl) (fun _ _ _ h => h) (by rfl) hS (fun w2 hw2 => ?ry5) ?rr5
      case ry5 => ((try dsimp only at hw2); go_simp <;> with_reducible rfl)
      simp only [Act.put, List.setIfInBounds_toArray, List.set_cons_zero, List.set_cons_succ]
      refine rg_take 7 (v := ?rv6) rfl (by kernel_rfl) (by kernel_rfl) (by kernel_rfl) (fun _ _ _ h => h) (by rfl) hS (fun w2 hw2 => ?ry6) ?rr6
      case ry6 => ((try dsimp only at hw2); go_simp <;> with_reducible rfl)
      simp only [Act.put, List.setIfInBounds_toArray, List.set_cons_zero, List.set_cons_succ]
      refine rg_take 4 (v := ?rv7) rfl (by kernel_rfl) (by kernel_rfl) (by kernel_rfl) (fun _ _ _ h => h) (by rfl) hS (fun w2 hw2 => ?ry7) ?rr7
      case ry7 => ((try dsimp only at hw2); go_simp <;> with_reducible rfl)
      simp only [Act.put, List.setIfInBounds_toArray, List.set_cons_zero, List.set_cons_succ]
      refine rg_take 6 (v := ?rv8) rfl (by kernel_rfl) (by kernel_rfl) (by kernel_rfl) (fun _ _ _ h => h) (by rfl) hS (fun w2 hw2 => ?ry8) ?rr8
      case ry8 => ((try dsimp only at hw2); go_simp <;> with_reducible rfl)
      simp only [Act.put, List.setIfInBounds_toArray, List.set_cons_zero, List.set_cons_succ]
      refine rg_take 8 (v := ?rv9) rfl (by kernel_rfl) (by kernel_rfl) (by kernel_rfl) (fun _ _ _ h => h) (by rfl) hS (fun w2 hw2 => ?ry9) ?rr9
      case ry9 => ((try dsimp only at hw2); go_simp <;> with_reducible rfl)
      simp only [Act.put, List.setIfInBounds_toArray, List.set_cons_zero, List.set_cons_succ]
      rw [E8.out]
      refine rg_take 9 (v := .slice B (kn - 8) d) rfl (by kernel_rfl) (by kernel_rfl) (by kernel_rfl) (fun _ _ _ h => h) (by rfl) hS (fun w2 hw2 => ?ryS1) ?rrS1
      case ryS1 => exact exec_slice_first (.tmp 133) (.tmp 135) rfl rfl rfl hkd w2
      simp only [Act.put, List.setIfInBounds_toArray, List.set_cons_zero, List.set_cons_succ]
      refine rg_step 10 rfl (by kernel_rfl) (by rfl) (fun K hK => ?_)
      go_simp
      refine (bytes_same (H26.out.2.2.1.later hS (Nat.le_refl _)) ((HB.out.1.first (k := kn - 8) (by have := HN5.out; omega)).later (H26.out.2.2.2.2.trans (hS.mono H26.out.2.2.2.2.size)) (Nat.le_refl _))).mono ?_
      rintro e w' ⟨rfl, rfl⟩
      refine hK.out _ _ hS ?_
      clear hK K
      try simp only [Act.put, List.setIfInBounds_toArray, List.set_cons_zero, List.set_cons_succ]
      refine rg_take 11 (v := ?rv10) rfl (by kernel_rfl) (by kernel_rfl) (by kernel_rfl) (fun _ _ _ h => h) (by rfl) hS (fun w2 hw2 => ?ry10) ?rr10
      case ry10 => ((try dsimp only at hw2); go_simp <;> with_reducible rfl)
      simp only [Act.put, List.setIfInBounds_toArray, List.set_cons_zero, List.set_cons_succ]
      refine rg_take 12 (v := ?rv11) rfl (by kernel_rfl) (by kernel_rfl) (by kernel_rfl) (fun _ _ _ h => h) (by rfl) hS (fun w2 hw2 => ?ry11) ?rr11
      case ry11 => ((try dsimp only at hw2); go_simp <;> with_reducible rfl)
      simp only [Act.put, List.setIfInBounds_toArray, List.set_cons_zero, List.set_cons_succ]
      refine rg_take 13 (v := ?rv12) rfl (by kernel_rfl) (by kernel_rfl) (by kernel_rfl) (fun _ _ _ h => h) (by rfl) hS (fun w2 hw2 => ?ry12) ?rr12
      case ry12 => ((try dsimp only at hw2); go_simp <;> with_reducible rfl)
      simp only [Act.put, List.setIfInBounds_toArray, List.set_cons_zero, List.set_cons_succ]
      refine rg_take 14 (v := ?rv13) rfl (by kernel_rfl) (by kernel_rfl) (by kernel_rfl) (fun _ _ _ h => h) (by rfl) hS (fun w2 hw2 => ?ry13) ?rr13
      case ry13 => ((try dsimp only at hw2); go_simp <;> with_reducible rfl)
      simp only [Act.put, List.setIfInBounds_toArray, List.set_cons_zero, List.set_cons_succ]
      refine rg_skip 15 rfl (by kernel_rfl) (by kernel_rfl) (by kernel_rfl) (fun _ _ _ h => h) (by rfl) hS ?_
      simp only [Act.put, List.setIfInBounds_toArray, List.set_cons_zero, List.set_cons_succ]
      refine rg_skip 16 rfl (by kernel_rfl) (by kernel_rfl) (by kernel_rfl) (fun _ _ _ h => h) (by rfl) hS ?_
      simp only [Act.put, List.setIfInBounds_toArray, List.set_cons_zero, List.set_cons_succ]
      refine rg_skip 17 rfl (by kernel_rfl) (by kernel_rfl) (by kernel_rfl) (fun _ _ _ h => h) (by rfl) hS ?_
      simp only [Act.put, List.setIfInBounds_toArray, List.set_cons_zero, List.set_cons_succ]
      refine rg_take 18 (v := ?rv14) rfl (by kernel_rfl) (by kernel_rfl) (by kernel_rfl) (fun _ _ _ h => h) (by rfl) hS (fun w2 hw2 => ?ry14) ?rr14
      case ry14 => ((try dsimp only at hw2); go_simp <;> with_reducible rfl)
      simp only [Act.put, List.setIfInBounds_toArray, List.set_cons_zero, List.set_cons_succ]
      refine rg_take 19 (v := ?rv15) rfl (by kernel_rfl) (by kernel_rfl) (by kernel_rfl) (fun _ _ _ h => h) (by rfl) hS (fun w2 hw2 => ?ry15) ?rr15
      case ry15 => ((try dsimp only at hw2); go_simp <;> with_reducible rfl)
      simp only [Act.put, List.setIfInBounds_toArray, List.set_cons_zero, List.set_cons_succ]
      refine rg_take 20 (v := ?rv16) rfl (by kernel_rfl) (by kernel_rfl) (by kernel_rfl) (fun _ _ _ h => h) (by rfl) hS (fun w2 hw2 => ?ry16) ?rr16
      case ry16 => ((try dsimp only at hw2); go_simp <;> with_reducible rfl)
      simp only [Act.put, List.setIfInBounds_toArray, List.set_cons_zero, List.set_cons_succ]
      refine rg_take 21 (v := ?rv17) rfl (by kernel_rfl) (by kernel_rfl) (by kernel_rfl) (fun _ _ _ h => h) (by rfl) hS (fun w2 hw2 => ?ry17) ?rr17
      case ry17 => ((try dsimp only at hw2); go_simp <;> with_reducible rfl)
      simp only [Act.put, List.setIfInBounds_toArray, List.set_cons_zero, List.set_cons_succ]
      refine rg_take 22 (v := ?rv18) rfl (by kernel_rfl) (by kernel_rfl) (by kernel_rfl) (fun _ _ _ h => h) (by rfl) hS (fun w2 hw2 => ?ry18) ?rr18
      case ry18 => ((try dsimp only at hw2); go_simp <;> with_reducible rfl)
      simp only [Act.put, List.setIfInBounds_toArray, List.set_cons_zero, List.set_cons_succ]
      refine rg_take 23 (v := ?rv19) rfl (by kernel_rfl) (by kernel_rfl) (by kernel_rfl) (fun _ _ _ h => h) (by rfl) hS (fun w2 hw2 => ?ry19) ?rr19
      case ry19 => ((try dsimp only at hw2); go_simp <;> with_reducible rfl)
      simp only [Act.put, List.setIfInBounds_toArray, List.set_cons_zero, List.set_cons_succ]
      refine rg_take 24 (v := ?rv20) rfl (by kernel_rfl) (by kernel_rfl) (by kernel_rfl) (fun _ _ _ h => h) (by rfl) hS (fun w2 hw2 => ?ry20) ?rr20
      case ry20 => ((try dsimp only at hw2); go_simp <;> with_reducible rfl)
      simp only [Act.put, List.setIfInBounds_toArray, List.set_cons_zero, List.set_cons_succ]
      refine rg_take 25 (v := ?rv21) rfl (by kernel_rfl) (by kernel_rfl) (by kernel_rfl) (fun _ _ _ h => h) (by rfl) hS (fun w2 hw2 => ?ry21) ?rr21
      case ry21 => ((try dsimp only at hw2); go_simp <;> with_reducible rfl)
      simp only [Act.put, List.setIfInBounds_toArray, List.set_cons_zero, List.set_cons_succ]
      refine rg_take 26 (v := ?rv22) rfl (by kernel_rfl) (by kernel_rfl) (by kernel_rfl) (fun _ _ _ h => h) (by rfl) hS (fun w2 hw2 => ?ry22) ?rr22
      case ry22 => ((try dsimp only at hw2); go_simp <;> with_reducible rfl)
      simp only [Act.put, List.setIfInBounds_toArray, List.set_cons_zero, List.set_cons_succ]
      refine rg_take 27 (v := ?rv23) rfl (by kernel_rfl) (by kernel_rfl) (by kernel_rfl) (fun _ _ _ h => h) (by rfl) hS (fun w2 hw2 => ?ry23) ?rr23
      case ry23 => ((try dsimp only at hw2); go_simp <;> with_reducible rfl)
      simp only [Act.put, List.setIfInBounds_toArray, List.set_cons_zero, List.set_cons_succ]
      refine rg_take 28 (v := ?rv24) rfl (by kernel_rfl) (by kernel_rfl) (by kernel_rfl) (fun _ _ _ h => h) (by rfl) hS (fun w2 hw2 => ?ry24) ?rr24
      case ry24 => ((try dsimp only at hw2); go_simp <;> with_reducible rfl)
      simp only [Act.put, List.setIfInBounds_toArray, List.set_cons_zero, List.set_cons_succ]
      refine rg_done (by kernel_rfl) ?_
      have hB := H26.out.2.2.2.2.trans (hS.mono H26.out.2.2.2.2.size)
      clear hS rcz rcd
      go_wp2_with fail
      go_ret
      exact ⟨rfl, hB⟩
    · go_wp2_with fail
      have k24 := parseU_turned HM.out HL.out (j := j) (by omega) (by rw [HT.out]; exact HJ.out.1) HWW.out
      rw [if_neg (by rw [← HJ.out.2]; exact xor_ne _ _ hy)] at k24
      refine k24.mono ?_
      rintro e w24 ⟨x24, A24, n24, c24, v24, rfl, t24, b24⟩
      obtain ⟨T24, y24, rfl⟩ := Tells.held' t24 (by simp)
      have H24 := Lib.hid (And.intro (H23.out.1.later b24 (Nat.le_refl _)) (And.intro (H23.out.2.1.later b24 (Nat.le_refl _)) (And.intro (H23.out.2.2.1.later b24 (Nat.le_refl _)) (And.intro (H23.out.2.2.2.1.later b24 (Nat.le_refl _)) (And.intro (t24) (H23.out.2.2.2.2.2.trans (b24.mono H23.out.2.2.2.2.2.size)))))))
      clear k24 t24 b24
      have hy3 : ¬ (y.toNat : Int) = 0 := fun h => hy (UInt8.toNat_inj.1 (by have h0 : (0 : UInt8).toNat = 0 := rfl; omega))
      have hyb : ((y.toNat : Int) != 0) = true := bne_iff_ne.2 hy3
      go_wp2_with (first
        | (refine wpList_alloc_dg rfl rfl ?_; intro w25 a25 b25 z25; have H25 := Lib.hid (And.intro a25 b25); clear a25 b25 z25)
        | (refine wpList_store_dg rfl (.tmp 15) (.tmp 115) rfl x24 A24 n24 c24 rfl rfl H25.out.1 ?_; intro w26 a26 o26 z26 b26; have bb := b26 _ _ (Nat.le_refl _) H25.out.2; have H26 := Lib.hid (And.intro (H24.out.1.later bb (Nat.le_refl _)) (And.intro (H24.out.2.1.later bb (Nat.le_refl _)) (And.intro (H24.out.2.2.1.later bb (Nat.le_refl _)) (And.intro (H24.out.2.2.2.1.later bb (Nat.le_refl _)) (And.intro (H24.out.2.2.2.2.1.later bb (Nat.le_refl _)) (H24.out.2.2.2.2.2.trans (bb.mono H24.out.2.2.2.2.2.size))))))); clear a26 o26 z26 b26 bb))
      have rcz : ∀ w', Below w26.heap.size w26 w' → w'.cell? ⟨w18.heap.size, 2, none⟩ = some (.slice A18 n18 c18) := fun w' h => (H26.out.2.2.2.1.later h (Nat.le_refl _)).cell 2
      have rcd : ∀ w', Below w26.heap.size w26 w' → w'.cell? ⟨w.heap.size, 2, none⟩ = some (.slice B m d) := fun w' h => (H26.out.1.later h (Nat.le_refl _)).cell 2
      have hS : Below w26.heap.size w26 w26.drew := (Below.refl _ _).drew
      have hkd : kn - 8 ≤ d := by have := HN5.out; omega
      have e8 : IntKind.i64.wrap ((kn : Int) - 8) = ((kn - 8 : Nat) : Int) := by rw [IntKind.wrap_i64]; omega
      have E8 := Lib.hid e8
      clear e8
      refine rg_begin (fun w' => Below w26.heap.size w26 w') 29 (by kernel_rfl) rfl ?_
      refine rg_take 0 (v := ?rv25) rfl (by kernel_rfl) (by kernel_rfl) (by kernel_rfl) (fun _ _ _ h => h) (by rfl) hS (fun w2 hw2 => ?ry25) ?rr25
      case ry25 => ((try dsimp only at hw2); go_simp <;> with_reducible rfl)
      simp only [Act.put, List.setIfInBounds_toArray, List.set_cons_zero, List.set_cons_succ]
      refine rg_take 1 (v := ?rv26) rfl (by kernel_rfl) (by kernel_rfl) (by kernel_rfl) (fun _ _ _ h => h) (by rfl) hS (fun w2 hw2 => ?ry26) ?rr26
      case ry26 => ((try dsimp only at hw2); go_simp <;> with_reducible rfl)
      simp only [Act.put, List.setIfInBounds_toArray, List.set_cons_zero, List.set_cons_succ]
      refine rg_take 2 (v := ?rv27) rfl (by kernel_rfl) (by kernel_rfl) (by kernel_rfl) (fun _ _ _ h => h) (by rfl) hS (fun w2 hw2 => ?ry27) ?rr27
      case ry27 => ((try dsimp only at hw2); go_simp <;> with_reducible rfl)
      simp only [Act.put, List.setIfInBounds_toArray, List.set_cons_zero, List.set_cons_succ]
      refine rg_take 3 (v := ?rv28) rfl (by kernel_rfl) (by kernel_rfl) (by kernel_rfl) (fun _ _ _ h => h) (by rfl) hS (fun w2 hw2 => ?ry28) ?rr28
      case ry28 => ((try dsimp only at hw2); go_simp <;> with_reducible rfl)
      simp only [Act.put, List.setIfInBounds_toArray, List.set_cons_zero, List.set_cons_succ]
      refine rg_take 5 (v := ?rv29) rfl (by kernel_rfl) (by kernel_rfl) (by kernel_rfl) (fun _ _ _ h => h) (by rfl) hS (fun w2 hw2 => ?ry29) ?rr29
      case ry29 => ((try dsimp only at hw2); go_simp <;> with_reducible rfl)
      simp only [Act.put, List.setIfInBounds_toArray, List.set_cons_zero, List.set_cons_succ]
      refine rg_take 7 (v := ?rv30) rfl (by kernel_rfl) (by kernel_rfl) (by kernel_rfl) (fun _ _ _ h => h) (by rfl) hS (fun w2 hw2 => ?ry30) ?rr30
      case ry30 => ((try dsimp only at hw2); go_simp <;> with_reducible rfl)
      simp only [Act.put, List.setIfInBounds_toArray, List.set_cons_zero, List.set_cons_succ]
      refine rg_take 4 (v := ?rv31) rfl (by kernel_rfl) (by kernel_rfl) (by kernel_rfl) (fun _ _ _ h => h) (by rfl) hS (fun w2 hw2 => ?ry31) ?rr31
      case ry31 => ((try dsimp only at hw2); go_simp <;> with_reducible rfl)
      simp only [Act.put, List.setIfInBounds_toArray, List.set_cons_zero, List.set_cons_succ]
      refine rg_take 6 (v := ?rv32) rfl (by kernel_rfl) (by kernel_rfl) (by kernel_rfl) (fun _ _ _ h => h) (by rfl) hS (fun w2 hw2 => ?ry32) ?rr32
      case ry32 => ((try dsimp only at hw2); go_simp <;> with_reducible rfl)
      simp only [Act.put, List.setIfInBounds_toArray, List.set_cons_zero, List.set_cons_succ]
      refine rg_take 8 (v := ?rv33) rfl (by kernel_rfl) (by kernel_rfl) (by kernel_rfl) (fun _ _ _ h => h) (by rfl) hS (fun w2 hw2 => ?ry33) ?rr33
      case ry33 => ((try dsimp only at hw2); go_simp <;> with_reducible rfl)
      simp only [Act.put, List.setIfInBounds_toArray, List.set_cons_zero, List.set_cons_succ]
      rw [E8.out]
      refine rg_take 9 (v := .slice B (kn - 8) d) rfl (by kernel_rfl) (by kernel_rfl) (by kernel_rfl) (fun _ _ _ h => h) (by rfl) hS (fun w2 hw2 => ?ryS2) ?rrS2
      case ryS2 => exact exec_slice_first (.tmp 133) (.tmp 135) rfl rfl rfl hkd w2
      simp only [Act.put, List.setIfInBounds_toArray, List.set_cons_zero, List.set_cons_succ]
      refine rg_step 10 rfl (by kernel_rfl) (by rfl) (fun K hK => ?_)
      go_simp
      refine (bytes_same (H26.out.2.2.1.later hS (Nat.le_refl _)) ((HB.out.1.first (k := kn - 8) (by have := HN5.out; omega)).later (H26.out.2.2.2.2.2.trans (hS.mono H26.out.2.2.2.2.2.size)) (Nat.le_refl _))).mono ?_
      rintro e w' ⟨rfl, rfl⟩
      refine hK.out _ _ hS ?_
      clear hK K
      try simp only [Act.put, List.setIfInBounds_toArray, List.set_cons_zero, List.set_cons_succ]
      refine rg_take 11 (v := ?rv34) rfl (by kernel_rfl) (by kernel_rfl) (by kernel_rfl) (fun _ _ _ h => h) (by rfl) hS (fun w2 hw2 => ?ry34) ?rr34
      case ry34 => ((try dsimp only at hw2); go_simp <;> with_reducible rfl)
      simp only [Act.put, List.setIfInBounds_toArray, List.set_cons_zero, List.set_cons_succ]
      refine rg_take 12 (v := ?rv35) rfl (by kernel_rfl) (by kernel_rfl) (by kernel_rfl) (fun _ _ _ h => h) (by rfl) hS (fun w2 hw2 => ?ry35) ?rr35
      case ry35 => ((try dsimp only at hw2); go_simp <;> with_reducible rfl)
      simp only [Act.put, List.setIfInBounds_toArray, List.set_cons_zero, List.set_cons_succ]
      refine rg_take 13 (v := ?rv36) rfl (by kernel_rfl) (by kernel_rfl) (by kernel_rfl) (fun _ _ _ h => h) (by rfl) hS (fun w2 hw2 => ?ry36) ?rr36
      case ry36 => ((try dsimp only at hw2); go_simp <;> with_reducible rfl)
      simp only [Act.put, List.setIfInBounds_toArray, List.set_cons_zero, List.set_cons_succ]
      refine rg_take 14 (v := ?rv37) rfl (by kernel_rfl) (by kernel_rfl) (by kernel_rfl) (fun _ _ _ h => h) (by rfl) hS (fun w2 hw2 => ?ry37) ?rr37
      case ry37 => ((try dsimp only at hw2); go_simp <;> with_reducible rfl)
      simp only [Act.put, List.setIfInBounds_toArray, List.set_cons_zero, List.set_cons_succ]
      refine rg_take 15 (v := ?rv38) rfl (by kernel_rfl) (by kernel_rfl) (by kernel_rfl) (fun _ _ _ h => h) (by rfl) hS (fun w2 hw2 => ?ry38) ?rr38
      case ry38 => ((try dsimp only at hw2); go_simp <;> with_reducible rfl)
      simp only [Act.put, List.setIfInBounds_toArray, List.set_cons_zero, List.set_cons_succ]
      refine rg_step 16 rfl (by kernel_rfl) (by rfl) (fun K hK => ?_)
      go_simp
      refine (help_at 8 6 _).mono ?_
      rintro e w31 ⟨rfl, bK⟩
      replace hS := hS.trans (bK.mono hS.size)
      clear bK
      refine hK.out _ _ hS ?_
      clear hK K
      try simp only [Act.put, List.setIfInBounds_toArray, List.set_cons_zero, List.set_cons_succ]
      refine rg_step 17 rfl (by kernel_rfl) (by rfl) (fun K hK => ?_)
      go_simp
      refine (is_told3 (H26.out.2.2.2.2.1.later hS (Nat.le_refl _)) (Handle.later (H26.out.2.2.2.2.2.trans (hS.mono H26.out.2.2.2.2.2.size)) (Nat.le_refl _) HB.out.2)).mono ?_
      rintro e w32 ⟨rfl, bK⟩
      replace hS := hS.trans (bK.mono hS.size)
      clear bK
      refine hK.out _ _ hS ?_
      clear hK K
      try simp only [Act.put, List.setIfInBounds_toArray, List.set_cons_zero, List.set_cons_succ]
      refine rg_take 18 (v := ?rv39) rfl (by kernel_rfl) (by kernel_rfl) (by kernel_rfl) (fun _ _ _ h => h) (by rfl) hS (fun w2 hw2 => ?ry39) ?rr39
      case ry39 => ((try dsimp only at hw2); go_simp <;> with_reducible rfl)
      simp only [Act.put, List.setIfInBounds_toArray, List.set_cons_zero, List.set_cons_succ]
      refine rg_take 19 (v := ?rv40) rfl (by kernel_rfl) (by kernel_rfl) (by kernel_rfl) (fun _ _ _ h => h) (by rfl) hS (fun w2 hw2 => ?ry40) ?rr40
      case ry40 => ((try dsimp only at hw2); go_simp <;> with_reducible rfl)
      simp only [Act.put, List.setIfInBounds_toArray, List.set_cons_zero, List.set_cons_succ]
      refine rg_skip 20 rfl (by kernel_rfl) (by kernel_rfl) (by kernel_rfl) (fun _ _ _ h => h) (by rfl) hS ?_
      simp only [Act.put, List.setIfInBounds_toArray, List.set_cons_zero, List.set_cons_succ]
      refine rg_skip 21 rfl (by kernel_rfl) (by kernel_rfl) (by kernel_rfl) (fun _ _ _ h => h) (by rfl) hS ?_
      simp only [Act.put, List.setIfInBounds_toArray, List.set_cons_zero, List.set_cons_succ]
      refine rg_skip 22 rfl (by kernel_rfl) (by kernel_rfl) (by kernel_rfl) (fun _ _ _ h => h) (by rfl) hS ?_
      simp only [Act.put, List.setIfInBounds_toArray, List.set_cons_zero, List.set_cons_succ]
      refine rg_skip 23 rfl (by kernel_rfl) (by kernel_rfl) (by kernel_rfl) (fun _ _ _ h => h) (by rfl) hS ?_
      simp only [Act.put, List.setIfInBounds_toArray, List.set_cons_zero, List.set_cons_succ]
      refine rg_skip 24 rfl (by kernel_rfl) (by kernel_rfl) (by kernel_rfl) (fun _ _ _ h => h) (by rfl) hS ?_
      simp only [Act.put, List.setIfInBounds_toArray, List.set_cons_zero, List.set_cons_succ]
      refine rg_skip 25 rfl (by kernel_rfl) (by kernel_rfl) (by kernel_rfl) (fun _ _ _ h => h) (by rfl) hS ?_
      simp only [Act.put, List.setIfInBounds_toArray, List.set_cons_zero, List.set_cons_succ]
      refine rg_take 26 (v := ?rv41) rfl (by kernel_rfl) (by kernel_rfl) (by kernel_rfl) (fun _ _ _ h => h) (by rfl) hS (fun w2 hw2 => ?ry41) ?rr41
      case ry41 => ((try dsimp only at hw2); go_simp <;> with_reducible rfl)
      simp only [Act.put, List.setIfInBounds_toArray, List.set_cons_zero, List.set_cons_succ]
      refine rg_take 27 (v := ?rv42) rfl (by kernel_rfl) (by kernel_rfl) (by kernel_rfl) (fun _ _ _ h => h) (by rfl) hS (fun w2 hw2 => ?ry42) ?rr42
      case ry42 => ((try dsimp only at hw2); go_simp <;> with_reducible rfl)
      simp only [Act.put, List.setIfInBounds_toArray, List.set_cons_zero, List.set_cons_succ]
      refine rg_take 28 (v := ?rv43) rfl (by kernel_rfl) (by kernel_rfl) (by kernel_rfl) (fun _ _ _ h => h) (by rfl) hS (fun w2 hw2 => ?ry43) ?rr43
      case ry43 => ((try dsimp only at hw2); go_simp <;> with_reducible rfl)
      simp only [Act.put, List.setIfInBounds_toArray, List.set_cons_zero, List.set_cons_succ]
      refine rg_done (by kernel_rfl) ?_
      have hB := H26.out.2.2.2.2.2.trans (hS.mono H26.out.2.2.2.2.2.size)
      clear hS rcz rcd
      go_wp2_with fail
      go_ret
      exact ⟨rfl, hB⟩
  · go_upto_region 17 with fail
    obtain ⟨s1, s2⟩ := own_put H21.out.1 H21.out.2 (Nat.le_refl _) j (.int .u8 xj.toNat) xj rfl
    generalize w21.setCell ⟨gv, j, none⟩ (.int .u8 xj.toNat) = w23 at s1 s2 ⊢
    obtain ⟨_, _, e23, hB23⟩ := Bs.of_own s1
    cases e23
    have H23 := Lib.hid (And.intro (H20.out.1.later s2 (Nat.le_refl _)) (And.intro (H20.out.2.1.later s2 (Nat.le_refl _)) (And.intro (H20.out.2.2.1.later s2 (Nat.le_refl _)) (And.intro (H20.out.2.2.2.1.later s2 (Nat.le_refl _)) (And.intro (hB23) (H20.out.2.2.2.2.trans (s2.mono H20.out.2.2.2.2.size)))))))
    clear s1 s2 hB23 hcj hfj hxo
    have hWW := H23.out.2.2.2.2.1
    rw [← HT.out] at hWW
    have HWW := Lib.hid hWW
    clear hWW
    rcases hy2 with hy | hy
    · go_wp2_with fail
      have k24 := parseU_turned HM.out HL.out (j := j) (by omega) (by rw [HT.out]; exact HJ.out.1) HWW.out
      rw [if_pos (xor_same _ _ _ hy HJ.out.2)] at k24
      refine k24.mono ?_
      rintro e w24 ⟨x24, A24, n24, c24, v24, rfl, t24, b24⟩
      obtain rfl := Tells.none' t24 rfl
      have H24 := Lib.hid (And.intro (H23.out.1.later b24 (Nat.le_refl _)) (And.intro (H23.out.2.1.later b24 (Nat.le_refl _)) (And.intro (H23.out.2.2.1.later b24 (Nat.le_refl _)) (And.intro (H23.out.2.2.2.1.later b24 (Nat.le_refl _)) (H23.out.2.2.2.2.2.trans (b24.mono H23.out.2.2.2.2.2.size))))))
      clear k24 t24 b24
      have hy3 : (y.toNat : Int) = 0 := by rw [hy]; rfl
      go_wp2_with (first
        | (refine wpList_alloc_dg rfl rfl ?_; intro w25 a25 b25 z25; have H25 := Lib.hid (And.intro a25 b25); clear a25 b25 z25)
        | (refine wpList_store_dg rfl (.tmp 15) (.tmp 115) rfl x24 A24 n24 c24 rfl rfl H25.out.1 ?_; intro w26 a26 o26 z26 b26; have bb := b26 _ _ (Nat.le_refl _) H25.out.2; have H26 := Lib.hid (And.intro (H24.out.1.later bb (Nat.le_refl _)) (And.intro (H24.out.2.1.later bb (Nat.le_refl _)) (And.intro (H24.out.2.2.1.later bb (Nat.le_refl _)) (And.intro (H24.out.2.2.2.1.later bb (Nat.le_refl _)) (H24.out.2.2.2.2.trans (bb.mono H24.out.2.2.2.2.size)))))); clear a26 o26 z26 b26 bb))
      have rcz : ∀ w', Below w26.heap.size w26 w' → w'.cell? ⟨w18.heap.size, 2, none⟩ = some (.slice A18 n18 c18) := fun w' h => (H26.out.2.2.2.1.later h (Nat.le_refl _)).cell 2
      have rcd : ∀ w', Below w26.heap.size w26 w' → w'.cell? ⟨w.heap.size, 2, none⟩ = some (.slice B m d) := fun w' h => (H26.out.1.later h (Nat.le_refl _)).cell 2
      have hS : Below w26.heap.size w26 w26.drew := (Below.refl _ _).drew
      have hkd : kn - 8 ≤ d := by have := HN5.out; omega
      have e8 : IntKind.i64.wrap ((kn : Int) - 8) = ((kn - 8 : Nat) : Int) := by rw [IntKind.wrap_i64]; omega
      have E8 := Lib.hid e8
      clear e8
      refine rg_begin (fun w' => Below w26.heap.size w26 w') 29 (by kernel_rfl) rfl ?_
      refine rg_take 0 (v := ?rv44) rfl (by kernel_rfl) (by kernel_rfl) (by kernel_rfl) (fun _ _ _ h => h) (by rfl) hS (fun w2 hw2 => ?ry44) ?rr44
      case ry44 => ((try dsimp only at hw2); go_simp <;> with_reducible rfl)
      simp only [Act.put, List.setIfInBounds_toArray, List.set_cons_zero, List.set_cons_succ]
      refine rg_take 1 (v := ?rv45) rfl (by kernel_rfl) (by kernel_rfl) (by kernel_rfl) (fun _ _ _ h => h) (by rfl) hS (fun w2 hw2 => ?ry45) ?rr45
      case ry45 => ((try dsimp only at hw2); go_simp <;> with_reducible rfl)
      simp only [Act.put, List.setIfInBounds_toArray, List.set_cons_zero, List.set_cons_succ]
      refine rg_take 2 (v := ?rv46) rfl (by kernel_rfl) (by kernel_rfl) (by kernel_rfl) (fun _ _ _ h => h) (by rfl) hS (fun w2 hw2 => ?ry46) ?rr46
      case ry46 => ((try dsimp only at hw2); go_simp <;> with_reducible rfl)
      simp only [Act.put, List.setIfInBounds_toArray, List.set_cons_zero, List.set_cons_succ]
      refine rg_take 3 (v := ?rv47) rfl (by kernel_rfl) (by kernel_rfl) (by kernel_rfl) (fun _ _ _ h => h) (by rfl) hS (fun w2 hw2 => ?ry47) ?rr47
      case ry47 => ((try dsimp only at hw2); go_simp <;> with_reducible rfl)
      simp only [Act.put, List.setIfInBounds_toArray, List.set_cons_zero, List.set_cons_succ]
      refine rg_take 5 (v := ?rv48) rfl (by kernel_rfl) (by kernel_rfl) (by kernel_rfl) (fun _ _ _ h => h) (by rfl) hS (fun w2 hw2 => ?ry48) ?rr48
      case ry48 => ((try dsimp only at hw2); go_simp <;> with_reducible rfl)
      simp only [Act.put, List.setIfInBounds_toArray, List.set_cons_zero, List.set_cons_succ]
      refine rg_take 7 (v := ?rv49) rfl (by kernel_rfl) (by kernel_rfl) (by kernel_rfl) (fun _ _ _ h => h) (by rfl) hS (fun w2 hw2 => ?ry49) ?rr49
      case ry49 => ((try dsimp only at hw2); go_simp <;> with_reducible rfl)
      simp only [Act.put, List.setIfInBounds_toArray, List.set_cons_zero, List.set_cons_succ]
      refine rg_take 4 (v := ?rv50) rfl (by kernel_rfl) (by kernel_rfl) (by kernel_rfl) (fun _ _ _ h => h) (by rfl) hS (fun w2 hw2 => ?ry50) ?rr50
      case ry50 => ((try dsimp only at hw2); go_simp <;> with_reducible rfl)
      simp only [Act.put, List.setIfInBounds_toArray, List.set_cons_zero, List.set_cons_succ]
      refine rg_take 6 (v := ?rv51) rfl (by kernel_rfl) (by kernel_rfl) (by kernel_rfl) (fun _ _ _ h => h) (by rfl) hS (fun w2 hw2 => ?ry51) ?rr51
      case ry51 => ((try dsimp only at hw2); go_simp <;> with_reducible rfl)
      simp only [Act.put, List.setIfInBounds_toArray, List.set_cons_zero, List.set_cons_succ]
      refine rg_take 8 (v := ?rv52) rfl (by kernel_rfl) (by kernel_rfl) (by kernel_rfl) (fun _ _ _ h => h) (by rfl) hS (fun w2 hw2 => ?ry52) ?rr52
      case ry52 => ((try dsimp only at hw2); go_simp <;> with_reducible rfl)
      simp only [Act.put, List.setIfInBounds_toArray, List.set_cons_zero, List.set_cons_succ]
      rw [E8.out]
      refine rg_take 9 (v := .slice B (kn - 8) d) rfl (by kernel_rfl) (by kernel_rfl) (by kernel_rfl) (fun _ _ _ h => h) (by rfl) hS (fun w2 hw2 => ?ryS3) ?rrS3
      case ryS3 => exact exec_slice_first (.tmp 133) (.tmp 135) rfl rfl rfl hkd w2
      simp only [Act.put, List.setIfInBounds_toArray, List.set_cons_zero, List.set_cons_succ]
      refine rg_step 10 rfl (by kernel_rfl) (by rfl) (fun K hK => ?_)
      go_simp
      refine (bytes_same (H26.out.2.2.1.later hS (Nat.le_refl _)) ((HB.out.1.first (k := kn - 8) (by have := HN5.out; omega)).later (H26.out.2.2.2.2.trans (hS.mono H26.out.2.2.2.2.size)) (Nat.le_refl _))).mono ?_
      rintro e w' ⟨rfl, rfl⟩
      refine hK.out _ _ hS ?_
      clear hK K
      try simp only [Act.put, List.setIfInBounds_toArray, List.set_cons_zero, List.set_cons_succ]
      refine rg_take 11 (v := ?rv53) rfl (by kernel_rfl) (by kernel_rfl) (by kernel_rfl) (fun _ _ _ h => h) (by rfl) hS (fun w2 hw2 => ?ry53) ?rr53
      case ry53 => ((try dsimp only at hw2); go_simp <;> with_reducible rfl)
      simp only [Act.put, List.setIfInBounds_toArray, List.set_cons_zero, List.set_cons_succ]
      refine rg_take 12 (v := ?rv54) rfl (by kernel_rfl) (by kernel_rfl) (by kernel_rfl) (fun _ _ _ h => h) (by rfl) hS (fun w2 hw2 => ?ry54) ?rr54
      case ry54 => ((try dsimp only at hw2); go_simp <;> with_reducible rfl)
      simp only [Act.put, List.setIfInBounds_toArray, List.set_cons_zero, List.set_cons_succ]
      refine rg_take 13 (v := ?rv55) rfl (by kernel_rfl) (by kernel_rfl) (by kernel_rfl) (fun _ _ _ h => h) (by rfl) hS (fun w2 hw2 => ?ry55) ?rr55
      case ry55 => ((try dsimp only at hw2); go_simp <;> with_reducible rfl)
      simp only [Act.put, List.setIfInBounds_toArray, List.set_cons_zero, List.set_cons_succ]
      refine rg_take 14 (v := ?rv56) rfl (by kernel_rfl) (by kernel_rfl) (by kernel_rfl) (fun _ _ _ h => h) (by rfl) hS (fun w2 hw2 => ?ry56) ?rr56
      case ry56 => ((try dsimp only at hw2); go_simp <;> with_reducible rfl)
      simp only [Act.put, List.setIfInBounds_toArray, List.set_cons_zero, List.set_cons_succ]
      refine rg_skip 15 rfl (by kernel_rfl) (by kernel_rfl) (by kernel_rfl) (fun _ _ _ h => h) (by rfl) hS ?_
      simp only [Act.put, List.setIfInBounds_toArray, List.set_cons_zero, List.set_cons_succ]
      refine rg_skip 16 rfl (by kernel_rfl) (by kernel_rfl) (by kernel_rfl) (fun _ _ _ h => h) (by rfl) hS ?_
      simp only [Act.put, List.setIfInBounds_toArray, List.set_cons_zero, List.set_cons_succ]
      refine rg_skip 17 rfl (by kernel_rfl) (by kernel_rfl) (by kernel_rfl) (fun _ _ _ h => h) (by rfl) hS ?_
      simp only [Act.put, List.setIfInBounds_toArray, List.set_cons_zero, List.set_cons_succ]
      refine rg_take 18 (v := ?rv57) rfl (by kernel_rfl) (by kernel_rfl) (by kernel_rfl) (fun _ _ _ h => h) (by rfl) hS (fun w2 hw2 => ?ry57) ?rr57
      case ry57 => ((try dsimp only at hw2); go_simp <;> with_reducible rfl)
      simp only [Act.put, List.setIfInBounds_toArray, List.set_cons_zero, List.set_cons_succ]
      refine rg_take 19 (v := ?rv58) rfl (by kernel_rfl) (by kernel_rfl) (by kernel_rfl) (fun _ _ _ h => h) (by rfl) hS (fun w2 hw2 => ?ry58) ?rr58
      case ry58 => ((try dsimp only at hw2); go_simp <;> with_reducible rfl)
      simp only [Act.put, List.setIfInBounds_toArray, List.set_cons_zero, List.set_cons_succ]
      refine rg_take 20 (v := ?rv59) rfl (by kernel_rfl) (by kernel_rfl) (by kernel_rfl) (fun _ _ _ h => h) (by rfl) hS (fun w2 hw2 => ?ry59) ?rr59
      case ry59 => ((try dsimp only at hw2); go_simp <;> with_reducible rfl)
      simp only [Act.put, List.setIfInBounds_toArray, List.set_cons_zero, List.set_cons_succ]
      refine rg_take 21 (v := ?rv60) rfl (by kernel_rfl) (by kernel_rfl) (by kernel_rfl) (fun _ _ _ h => h) (by rfl) hS (fun w2 hw2 => ?ry60) ?rr60
      case ry60 => ((try dsimp only at hw2); go_simp <;> with_reducible rfl)
      simp only [Act.put, List.setIfInBounds_toArray, List.set_cons_zero, List.set_cons_succ]
      refine rg_take 22 (v := ?rv61) rfl (by kernel_rfl) (by kernel_rfl) (by kernel_rfl) (fun _ _ _ h => h) (by rfl) hS (fun w2 hw2 => ?ry61) ?rr61
      case ry61 => ((try dsimp only at hw2); go_simp <;> with_reducible rfl)
      simp only [Act.put, List.setIfInBounds_toArray, List.set_cons_zero, List.set_cons_succ]
      refine rg_take 23 (v := ?rv62) rfl (by kernel_rfl) (by kernel_rfl) (by kernel_rfl) (fun _ _ _ h => h) (by rfl) hS (fun w2 hw2 => ?ry62) ?rr62
      case ry62 => ((try dsimp only at hw2); go_simp <;> with_reducible rfl)
      simp only [Act.put, List.setIfInBounds_toArray, List.set_cons_zero, List.set_cons_succ]
      refine rg_take 24 (v := ?rv63) rfl (by kernel_rfl) (by kernel_rfl) (by kernel_rfl) (fun _ _ _ h => h) (by rfl) hS (fun w2 hw2 => ?ry63) ?rr63
      case ry63 => ((try dsimp only at hw2); go_simp <;> with_reducible rfl)
      simp only [Act.put, List.setIfInBounds_toArray, List.set_cons_zero, List.set_cons_succ]
      refine rg_take 25 (v := ?rv64) rfl (by kernel_rfl) (by kernel_rfl) (by kernel_rfl) (fun _ _ _ h => h) (by rfl) hS (fun w2 hw2 => ?ry64) ?rr64
      case ry64 => ((try dsimp only at hw2); go_simp <;> with_reducible rfl)
      simp only [Act.put, List.setIfInBounds_toArray, List.set_cons_zero, List.set_cons_succ]
      refine rg_take 26 (v := ?rv65) rfl (by kernel_rfl) (by kernel_rfl) (by kernel_rfl) (fun _ _ _ h => h) (by rfl) hS (fun w2 hw2 => ?ry65) ?rr65
      case ry65 => ((try dsimp only at hw2); go_simp <;> with_reducible rfl)
      simp only [Act.put, List.setIfInBounds_toArray, List.set_cons_zero, List.set_cons_succ]
      refine rg_take 27 (v := ?rv66) rfl (by kernel_rfl) (by kernel_rfl) (by kernel_rfl) (fun _ _ _ h => h) (by rfl) hS (fun w2 hw2 => ?ry66) ?rr66
      case ry66 => ((try dsimp only at hw2); go_simp <;> with_reducible rfl)
      simp only [Act.put, List.setIfInBounds_toArray, List.set_cons_zero, List.set_cons_succ]
      refine rg_take 28 (v := ?rv67) rfl (by kernel_rfl) (by kernel_rfl) (by kernel_rfl) (fun _ _ _ h => h) (by rfl) hS (fun w2 hw2 => ?ry67) ?rr67
      case ry67 => ((try dsimp only at hw2); go_simp <;> with_reducible rfl)
      simp only [Act.put, List.setIfInBounds_toArray, List.set_cons_zero, List.set_cons_succ]
      refine rg_done (by kernel_rfl) ?_
      have hB := H26.out.2.2.2.2.trans (hS.mono H26.out.2.2.2.2.size)
      clear hS rcz rcd
      go_wp2_with fail
      go_ret
      exact ⟨rfl, hB⟩
    · go_wp2_with fail
      have k24 := parseU_turned HM.out HL.out (j := j) (by omega) (by rw [HT.out]; exact HJ.out.1) HWW.out
      rw [if_neg (by rw [← HJ.out.2]; exact xor_ne _ _ hy)] at k24
      refine k24.mono ?_
      rintro e w24 ⟨x24, A24, n24, c24, v24, rfl, t24, b24⟩
      obtain ⟨T24, y24, rfl⟩ := Tells.held' t24 (by simp)
      have H24 := Lib.hid (And.intro (H23.out.1.later b24 (Nat.le_refl _)) (And.intro (H23.out.2.1.later b24 (Nat.le_refl _)) (And.intro (H23.out.2.2.1.later b24 (Nat.le_refl _)) (And.intro (H23.out.2.2.2.1.later b24 (Nat.le_refl _)) (And.intro (t24) (H23.out.2.2.2.2.2.trans (b24.mono H23.out.2.2.2.2.2.size)))))))
      clear k24 t24 b24
      have hy3 : ¬ (y.toNat : Int) = 0 := fun h => hy (UInt8.toNat_inj.1 (by have h0 : (0 : UInt8).toNat = 0 := rfl; omega))
      have hyb : ((y.toNat : Int) != 0) = true := bne_iff_ne.2 hy3
      go_wp2_with (first
        | (refine wpList_alloc_dg rfl rfl ?_; intro w25 a25 b25 z25; have H25 := Lib.hid (And.intro a25 b25); clear a25 b25 z25)
        | (refine wpList_store_dg rfl (.tmp 15) (.tmp 115) rfl x24 A24 n24 c24 rfl rfl H25.out.1 ?_; intro w26 a26 o26 z26 b26; have bb := b26 _ _ (Nat.le_refl _) H25.out.2; have H26 := Lib.hid (And.intro (H24.out.1.later bb (Nat.le_refl _)) (And.intro (H24.out.2.1.later bb (Nat.le_refl _)) (And.intro (H24.out.2.2.1.later bb (Nat.le_refl _)) (And.intro (H24.out.2.2.2.1.later bb (Nat.le_refl _)) (And.intro (H24.out.2.2.2.2.1.later bb (Nat.le_refl _)) (H24.out.2.2.2.2.2.trans (bb.mono H24.out.2.2.2.2.2.size))))))); clear a26 o26 z26 b26 bb))
      have rcz : ∀ w', Below w26.heap.size w26 w' → w'.cell? ⟨w18.heap.size, 2, none⟩ = some (.slice A18 n18 c18) := fun w' h => (H26.out.2.2.2.1.later h (Nat.le_refl _)).cell 2
      have rcd : ∀ w', Below w26.heap.size w26 w' → w'.cell? ⟨w.heap.size, 2, none⟩ = some (.slice B m d) := fun w' h => (H26.out.1.later h (Nat.le_refl _)).cell 2
      have hS : Below w26.heap.size w26 w26.drew := (Below.refl _ _).drew
      have hkd : kn - 8 ≤ d := by have := HN5.out; omega
      have e8 : IntKind.i64.wrap ((kn : Int) - 8) = ((kn - 8 : Nat) : Int) := by rw [IntKind.wrap_i64]; omega
      have E8 := Lib.hid e8
      clear e8
      refine rg_begin (fun w' => Below w26.heap.size w26 w') 29 (by kernel_rfl) rfl ?_
      refine rg_take 0 (v := ?rv68) rfl (by kernel_rfl) (by kernel_rfl) (by kernel_rfl) (fun _ _ _ h => h) (by rfl) hS (fun w2 hw2 => ?ry68) ?rr68
      case ry68 => ((try dsimp only at hw2); go_simp <;> with_reducible rfl)
      simp only [Act.put, List.setIfInBounds_toArray, List.set_cons_zero, List.set_cons_succ]
      refine rg_take 1 (v := ?rv69) rfl (by kernel_rfl) (by kernel_rfl) (by kernel_rfl) (fun _ _ _ h => h) (by rfl) hS (fun w2 hw2 => ?ry69) ?rr69
      case ry69 => ((try dsimp only at hw2); go_simp <;> with_reducible rfl)
      simp only [Act.put, List.setIfInBounds_toArray, List.set_cons_zero, List.set_cons_succ]
      refine rg_take 2 (v := ?rv70) rfl (by kernel_rfl) (by kernel_rfl) (by kernel_rfl) (fun _ _ _ h => h) (by rfl) hS (fun w2 hw2 => ?ry70) ?rr70
      case ry70 => ((try dsimp only at hw2); go_simp <;> with_reducible rfl)
      simp only [Act.put, List.setIfInBounds_toArray, List.set_cons_zero, List.set_cons_succ]
      refine rg_take 3 (v := ?rv71) rfl (by kernel_rfl) (by kernel_rfl) (by kernel_rfl) (fun _ _ _ h => h) (by rfl) hS (fun w2 hw2 => ?ry71) ?rr71
      case ry71 => ((try dsimp only at hw2); go_simp <;> with_reducible rfl)
      simp only [Act.put, List.setIfInBounds_toArray, List.set_cons_zero, List.set_cons_succ]
      refine rg_take 5 (v := ?rv72) rfl (by kernel_rfl) (by kernel_rfl) (by kernel_rfl) (fun _ _ _ h => h) (by rfl) hS (fun w2 hw2 => ?ry72) ?rr72
      case ry72 => ((try dsimp only at hw2); go_simp <;> with_reducible rfl)
      simp only [Act.put, List.setIfInBounds_toArray, List.set_cons_zero, List.set_cons_succ]
      refine rg_take 7 (v := ?rv73) rfl (by kernel_rfl) (by kernel_rfl) (by kernel_rfl) (fun _ _ _ h => h) (by rfl) hS (fun w2 hw2 => ?ry73) ?rr73
      case ry73 => ((try dsimp only at hw2); go_simp <;> with_reducible rfl)
      simp only [Act.put, List.setIfInBounds_toArray, List.set_cons_zero, List.set_cons_succ]
      refine rg_take 4 (v := ?rv74) rfl (by kernel_rfl) (by kernel_rfl) (by kernel_rfl) (fun _ _ _ h => h) (by rfl) hS (fun w2 hw2 => ?ry74) ?rr74
      case ry74 => ((try dsimp only at hw2); go_simp <;> with_reducible rfl)
      simp only [Act.put, List.setIfInBounds_toArray, List.set_cons_zero, List.set_cons_succ]
      refine rg_take 6 (v := ?rv75) rfl (by kernel_rfl) (by kernel_rfl) (by kernel_rfl) (fun _ _ _ h => h) (by rfl) hS (fun w2 hw2 => ?ry75) ?rr75
      case ry75 => ((try dsimp only at hw2); go_simp <;> with_reducible rfl)
      simp only [Act.put, List.setIfInBounds_toArray, List.set_cons_zero, List.set_cons_succ]
      refine rg_take 8 (v := ?rv76) rfl (by kernel_rfl) (by kernel_rfl) (by kernel_rfl) (fun _ _ _ h => h) (by rfl) hS (fun w2 hw2 => ?ry76) ?rr76
      case ry76 => ((try dsimp only at hw2); go_simp <;> with_reducible rfl)
      simp only [Act.put, List.setIfInBounds_toArray, List.set_cons_zero, List.set_cons_succ]
      rw [E8.out]
      refine rg_take 9 (v := .slice B (kn - 8) d) rfl (by kernel_rfl) (by kernel_rfl) (by kernel_rfl) (fun _ _ _ h => h) (by rfl) hS (fun w2 hw2 => ?ryS4) ?rrS4
      case ryS4 => exact exec_slice_first (.tmp 133) (.tmp 135) rfl rfl rfl hkd w2
      simp only [Act.put, List.setIfInBounds_toArray, List.set_cons_zero, List.set_cons_succ]
      refine rg_step 10 rfl (by kernel_rfl) (by rfl) (fun K hK => ?_)
      go_simp
      refine (bytes_same (H26.out.2.2.1.later hS (Nat.le_refl _)) ((HB.out.1.first (k := kn - 8) (by have := HN5.out; omega)).later (H26.out.2.2.2.2.2.trans (hS.mono H26.out.2.2.2.2.2.size)) (Nat.le_refl _))).mono ?_
      rintro e w' ⟨rfl, rfl⟩
      refine hK.out _ _ hS ?_
      clear hK K
      try simp only [Act.put, List.setIfInBounds_toArray, List.set_cons_zero, List.set_cons_succ]
      refine rg_take 11 (v := ?rv77) rfl (by kernel_rfl) (by kernel_rfl) (by kernel_rfl) (fun _ _ _ h => h) (by rfl) hS (fun w2 hw2 => ?ry77) ?rr77
      case ry77 => ((try dsimp only at hw2); go_simp <;> with_reducible rfl)
      simp only [Act.put, List.setIfInBounds_toArray, List.set_cons_zero, List.set_cons_succ]
      refine rg_take 12 (v := ?rv78) rfl (by kernel_rfl) (by kernel_rfl) (by kernel_rfl) (fun _ _ _ h => h) (by rfl) hS (fun w2 hw2 => ?ry78) ?rr78
      case ry78 => ((try dsimp only at hw2); go_simp <;> with_reducible rfl)
      simp only [Act.put, List.setIfInBounds_toArray, List.set_cons_zero, List.set_cons_succ]
      refine rg_take 13 (v := ?rv79) rfl (by kernel_rfl) (by kernel_rfl) (by kernel_rfl) (fun _ _ _ h => h) (by rfl) hS (fun w2 hw2 => ?ry79) ?rr79
      case ry79 => ((try dsimp only at hw2); go_simp <;> with_reducible rfl)
      simp only [Act.put, List.setIfInBounds_toArray, List.set_cons_zero, List.set_cons_succ]
      refine rg_take 14 (v := ?rv80) rfl (by kernel_rfl) (by kernel_rfl) (by kernel_rfl) (fun _ _ _ h => h) (by rfl) hS (fun w2 hw2 => ?ry80) ?rr80
      case ry80 => ((try dsimp only at hw2); go_simp <;> with_reducible rfl)
      simp only [Act.put, List.setIfInBounds_toArray, List.set_cons_zero, List.set_cons_succ]
      refine rg_take 15 (v := ?rv81) rfl (by kernel_rfl) (by kernel_rfl) (by kernel_rfl) (fun _ _ _ h => h) (by rfl) hS (fun w2 hw2 => ?ry81) ?rr81
      case ry81 => ((try dsimp only at hw2); go_simp <;> with_reducible rfl)
      simp only [Act.put, List.setIfInBounds_toArray, List.set_cons_zero, List.set_cons_succ]
      refine rg_step 16 rfl (by kernel_rfl) (by rfl) (fun K hK => ?_)
      go_simp
      refine (help_at 8 6 _).mono ?_
      rintro e w31 ⟨rfl, bK⟩
      replace hS := hS.trans (bK.mono hS.size)
      clear bK
      refine hK.out _ _ hS ?_
      clear hK K
      try simp only [Act.put, List.setIfInBounds_toArray, List.set_cons_zero, List.set_cons_succ]
      refine rg_step 17 rfl (by kernel_rfl) (by rfl) (fun K hK => ?_)
      go_simp
      refine (is_told3 (H26.out.2.2.2.2.1.later hS (Nat.le_refl _)) (Handle.later (H26.out.2.2.2.2.2.trans (hS.mono H26.out.2.2.2.2.2.size)) (Nat.le_refl _) HB.out.2)).mono ?_
      rintro e w32 ⟨rfl, bK⟩
      replace hS := hS.trans (bK.mono hS.size)
      clear bK
      refine hK.out _ _ hS ?_
      clear hK K
      try simp only [Act.put, List.setIfInBounds_toArray, List.set_cons_zero, List.set_cons_succ]
      refine rg_take 18 (v := ?rv82) rfl (by kernel_rfl) (by kernel_rfl) (by kernel_rfl) (fun _ _ _ h => h) (by rfl) hS (fun w2 hw2 => ?ry82) ?rr82
      case ry82 => ((try dsimp only at hw2); go_simp <;> with_reducible rfl)
      simp only [Act.put, List.setIfInBounds_toArray, List.set_cons_zero, List.set_cons_succ]
      refine rg_take 19 (v := ?rv83) rfl (by kernel_rfl) (by kernel_rfl) (by kernel_rfl) (fun _ _ _ h => h) (by rfl) hS (fun w2 hw2 => ?ry83) ?rr83
      case ry83 => ((try dsimp only at hw2); go_simp <;> with_reducible rfl)
      simp only [Act.put, List.setIfInBounds_toArray, List.set_cons_zero, List.set_cons_succ]
      refine rg_skip 20 rfl (by kernel_rfl) (by kernel_rfl) (by kernel_rfl) (fun _ _ _ h => h) (by rfl) hS ?_
      simp only [Act.put, List.setIfInBounds_toArray, List.set_cons_zero, List.set_cons_succ]
      refine rg_skip 21 rfl (by kernel_rfl) (by kernel_rfl) (by kernel_rfl) (fun _ _ _ h => h) (by rfl) hS ?_
      simp only [Act.put, List.setIfInBounds_toArray, List.set_cons_zero, List.set_cons_succ]
      refine rg_skip 22 rfl (by kernel_rfl) (by kernel_rfl) (by kernel_rfl) (fun _ _ _ h => h) (by rfl) hS ?_
      simp only [Act.put, List.setIfInBounds_toArray, List.set_cons_zero, List.set_cons_succ]
      refine rg_skip 23 rfl (by kernel_rfl) (by kernel_rfl) (by kernel_rfl) (fun _ _ _ h => h) (by rfl) hS ?_
      simp only [Act.put, List.setIfInBounds_toArray, List.set_cons_zero, List.set_cons_succ]
      refine rg_skip 24 rfl (by kernel_rfl) (by kernel_rfl) (by kernel_rfl) (fun _ _ _ h => h) (by rfl) hS ?_
      simp only [Act.put, List.setIfInBounds_toArray, List.set_cons_zero, List.set_cons_succ]
      refine rg_skip 25 rfl (by kernel_rfl) (by kernel_rfl) (by kernel_rfl) (fun _ _ _ h => h) (by rfl) hS ?_
      simp only [Act.put, List.setIfInBounds_toArray, List.set_cons_zero, List.set_cons_succ]
      refine rg_take 26 (v := ?rv84) rfl (by kernel_rfl) (by kernel_rfl) (by kernel_rfl) (fun _ _ _ h => h) (by rfl) hS (fun w2 hw2 => ?ry84) ?rr84
      case ry84 => ((try dsimp only at hw2); go_simp <;> with_reducible rfl)
      simp only [Act.put, List.setIfInBounds_toArray, List.set_cons_zero, List.set_cons_succ]
      refine rg_take 27 (v := ?rv85) rfl (by kernel_rfl) (by kernel_rfl) (by kernel_rfl) (fun _ _ _ h => h) (by rfl) hS (fun w2 hw2 => ?ry85) ?rr85
      case ry85 => ((try dsimp only at hw2); go_simp <;> with_reducible rfl)
      simp only [Act.put, List.setIfInBounds_toArray, List.set_cons_zero, List.set_cons_succ]
      refine rg_take 28 (v := ?rv86) rfl (by kernel_rfl) (by kernel_rfl) (by kernel_rfl) (fun _ _ _ h => h) (by rfl) hS (fun w2 hw2 => ?ry86) ?rr86
      case ry86 => ((try dsimp only at hw2); go_simp <;> with_reducible rfl)
      simp only [Act.put, List.setIfInBounds_toArray, List.set_cons_zero, List.set_cons_succ]
      refine rg_done (by kernel_rfl) ?_
      have hB := H26.out.2.2.2.2.2.trans (hS.mono H26.out.2.2.2.2.2.size)
      clear hS rcz rcd
      go_wp2_with fail
      go_ret
      exact ⟨rfl, hB⟩
  · go_upto_region 17 with fail
    obtain ⟨_, _, e23, hB23⟩ := Bs.of_own H21.out.1
    cases e23
    obtain ⟨w23, hw23⟩ : ∃ w23, w21 = w23 := ⟨_, rfl⟩
    rw [hw23] at hB23 H22 ⊢
    have bb := Below.refl w23.heap.size w23
    have H23 := Lib.hid (And.intro (H22.out.1.later bb (Nat.le_refl _)) (And.intro (H22.out.2.1.later bb (Nat.le_refl _)) (And.intro (H22.out.2.2.1.later bb (Nat.le_refl _)) (And.intro (H22.out.2.2.2.1.later bb (Nat.le_refl _)) (And.intro (hB23) (H22.out.2.2.2.2.trans (bb.mono H22.out.2.2.2.2.size)))))))
    clear bb hB23 hcj hfj hxo
    have hWW := H23.out.2.2.2.2.1
    rw [← HT.out] at hWW
    have HWW := Lib.hid hWW
    clear hWW
    rcases hy2 with hy | hy
    · go_wp2_with fail
      have k24 := parseU_built (sv := false) (dv := false) (sb := zad) (db := zad) (s := ⟨sp1, dp1, pay⟩) (r := []) rfl rfl HM.out HL.out (by simp) (by rw [List.append_nil]; exact HWW.out)
      refine k24.mono ?_
      rintro e w24 ⟨A24, n24, c24, v24, rfl, q24, t24, b24⟩
      clear q24
      obtain ⟨x24, hx24⟩ : ∃ x24 : Dg, (⟨sp1, dp1, pay⟩ : Dg) = x24 := ⟨_, rfl⟩
      dsimp only
      rw [hx24]
      obtain rfl := Tells.none' t24 rfl
      have H24 := Lib.hid (And.intro (H23.out.1.later b24 (Nat.le_refl _)) (And.intro (H23.out.2.1.later b24 (Nat.le_refl _)) (And.intro (H23.out.2.2.1.later b24 (Nat.le_refl _)) (And.intro (H23.out.2.2.2.1.later b24 (Nat.le_refl _)) (H23.out.2.2.2.2.2.trans (b24.mono H23.out.2.2.2.2.2.size))))))
      clear k24 t24 b24
      have hy3 : (y.toNat : Int) = 0 := by rw [hy]; rfl
      go_wp2_with (first
        | (refine wpList_alloc_dg rfl rfl ?_; intro w25 a25 b25 z25; have H25 := Lib.hid (And.intro a25 b25); clear a25 b25 z25)
        | (refine wpList_store_dg rfl (.tmp 15) (.tmp 115) rfl x24 A24 n24 c24 rfl rfl H25.out.1 ?_; intro w26 a26 o26 z26 b26; have bb := b26 _ _ (Nat.le_refl _) H25.out.2; have H26 := Lib.hid (And.intro (H24.out.1.later bb (Nat.le_refl _)) (And.intro (H24.out.2.1.later bb (Nat.le_refl _)) (And.intro (H24.out.2.2.1.later bb (Nat.le_refl _)) (And.intro (H24.out.2.2.2.1.later bb (Nat.le_refl _)) (H24.out.2.2.2.2.trans (bb.mono H24.out.2.2.2.2.size)))))); clear a26 o26 z26 b26 bb))
      have rcz : ∀ w', Below w26.heap.size w26 w' → w'.cell? ⟨w18.heap.size, 2, none⟩ = some (.slice A18 n18 c18) := fun w' h => (H26.out.2.2.2.1.later h (Nat.le_refl _)).cell 2
      have rcd : ∀ w', Below w26.heap.size w26 w' → w'.cell? ⟨w.heap.size, 2, none⟩ = some (.slice B m d) := fun w' h => (H26.out.1.later h (Nat.le_refl _)).cell 2
      have hS : Below w26.heap.size w26 w26.drew := (Below.refl _ _).drew
      have hkd : kn - 8 ≤ d := by have := HN5.out; omega
      have e8 : IntKind.i64.wrap ((kn : Int) - 8) = ((kn - 8 : Nat) : Int) := by rw [IntKind.wrap_i64]; omega
      have E8 := Lib.hid e8
      clear e8
      refine rg_begin (fun w' => Below w26.heap.size w26 w') 29 (by kernel_rfl) rfl ?_
      refine rg_take 0 (v := ?rv87) rfl (by kernel_rfl) (by kernel_rfl) (by kernel_rfl) (fun _ _ _ h => h) (by rfl) hS (fun w2 hw2 => ?ry87) ?rr87
      case ry87 => ((try dsimp only at hw2); go_simp <;> with_reducible rfl)
      simp only [Act.put, List.setIfInBounds_toArray, List.set_cons_zero, List.set_cons_succ]
      refine rg_take 1 (v := ?rv88) rfl (by kernel_rfl) (by kernel_rfl) (by kernel_rfl) (fun _ _ _ h => h) (by rfl) hS (fun w2 hw2 => ?ry88) ?rr88
      case ry88 => ((try dsimp only at hw2); go_simp <;> with_reducible rfl)
      simp only [Act.put, List.setIfInBounds_toArray, List.set_cons_zero, List.set_cons_succ]
      refine rg_take 2 (v := ?rv89) rfl (by kernel_rfl) (by kernel_rfl) (by kernel_rfl) (fun _ _ _ h => h) (by rfl) hS (fun w2 hw2 => ?ry89) ?rr89
      case ry89 => ((try dsimp only at hw2); go_simp <;> with_reducible rfl)
      simp only [Act.put, List.setIfInBounds_toArray, List.set_cons_zero, List.set_cons_succ]
      refine rg_take 3 (v := ?rv90) rfl (by kernel_rfl) (by kernel_rfl) (by kernel_rfl) (fun _ _ _ h => h) (by rfl) hS (fun w2 hw2 => ?ry90) ?rr90
      case ry90 => ((try dsimp only at hw2); go_simp <;> with_reducible rfl)
      simp only [Act.put, List.setIfInBounds_toArray, List.set_cons_zero, List.set_cons_succ]
      refine rg_take 5 (v := ?rv91) rfl (by kernel_rfl) (by kernel_rfl) (by kernel_rfl) (fun _ _ _ h => h) (by rfl) hS (fun w2 hw2 => ?ry91) ?rr91
      case ry91 => ((try dsimp only at hw2); go_simp <;> with_reducible rfl)
      simp only [Act.put, List.setIfInBounds_toArray, List.set_cons_zero, List.set_cons_succ]
      refine rg_take 7 (v := ?rv92) rfl (by kernel_rfl) (by kernel_rfl) (by kernel_rfl) (fun _ _ _ h => h) (by rfl) hS (fun w2 hw2 => ?ry92) ?rr92
      case ry92 => ((try dsimp only at hw2); go_simp <;> with_reducible rfl)
      simp only [Act.put, List.setIfInBounds_toArray, List.set_cons_zero, List.set_cons_succ]
      refine rg_take 4 (v := ?rv93) rfl (by kernel_rfl) (by kernel_rfl) (by kernel_rfl) (fun _ _ _ h => h) (by rfl) hS (fun w2 hw2 => ?ry93) ?rr93
      case ry93 => ((try dsimp only at hw2); go_simp <;> with_reducible rfl)
      simp only [Act.put, List.setIfInBounds_toArray, List.set_cons_zero, List.set_cons_succ]
      refine rg_take 6 (v := ?rv94) rfl (by kernel_rfl) (by kernel_rfl) (by kernel_rfl) (fun _ _ _ h => h) (by rfl) hS (fun w2 hw2 => ?ry94) ?rr94
      case ry94 => ((try dsimp only at hw2); go_simp <;> with_reducible rfl)
      simp only [Act.put, List.setIfInBounds_toArray, List.set_cons_zero, List.set_cons_succ]
      refine rg_take 8 (v := ?rv95) rfl (by kernel_rfl) (by kernel_rfl) (by kernel_rfl) (fun _ _ _ h => h) (by rfl) hS (fun w2 hw2 => ?ry95) ?rr95
      case ry95 => ((try dsimp only at hw2); go_simp <;> with_reducible rfl)
      simp only [Act.put, List.setIfInBounds_toArray, List.set_cons_zero, List.set_cons_succ]
      rw [E8.out]
      refine rg_take 9 (v := .slice B (kn - 8) d) rfl (by kernel_rfl) (by kernel_rfl) (by kernel_rfl) (fun _ _ _ h => h) (by rfl) hS (fun w2 hw2 => ?ryS5) ?rrS5
      case ryS5 => exact exec_slice_first (.tmp 133) (.tmp 135) rfl rfl rfl hkd w2
      simp only [Act.put, List.setIfInBounds_toArray, List.set_cons_zero, List.set_cons_succ]
      refine rg_step 10 rfl (by kernel_rfl) (by rfl) (fun K hK => ?_)
      go_simp
      refine (bytes_same (H26.out.2.2.1.later hS (Nat.le_refl _)) ((HB.out.1.first (k := kn - 8) (by have := HN5.out; omega)).later (H26.out.2.2.2.2.trans (hS.mono H26.out.2.2.2.2.size)) (Nat.le_refl _))).mono ?_
      rintro e w' ⟨rfl, rfl⟩
      refine hK.out _ _ hS ?_
      clear hK K
      try simp only [Act.put, List.setIfInBounds_toArray, List.set_cons_zero, List.set_cons_succ]
      refine rg_take 11 (v := ?rv96) rfl (by kernel_rfl) (by kernel_rfl) (by kernel_rfl) (fun _ _ _ h => h) (by rfl) hS (fun w2 hw2 => ?ry96) ?rr96
      case ry96 => ((try dsimp only at hw2); go_simp <;> with_reducible rfl)
      simp only [Act.put, List.setIfInBounds_toArray, List.set_cons_zero, List.set_cons_succ]
      refine rg_take 12 (v := ?rv97) rfl (by kernel_rfl) (by kernel_rfl) (by kernel_rfl) (fun _ _ _ h => h) (by rfl) hS (fun w2 hw2 => ?ry97) ?rr97
      case ry97 => ((try dsimp only at hw2); go_simp <;> with_reducible rfl)
      simp only [Act.put, List.setIfInBounds_toArray, List.set_cons_zero, List.set_cons_succ]
      refine rg_take 13 (v := ?rv98) rfl (by kernel_rfl) (by kernel_rfl) (by kernel_rfl) (fun _ _ _ h => h) (by rfl) hS (fun w2 hw2 => ?ry98) ?rr98
      case ry98 => ((try dsimp only at hw2); go_simp <;> with_reducible rfl)
      simp only [Act.put, List.setIfInBounds_toArray, List.set_cons_zero, List.set_cons_succ]
      refine rg_take 14 (v := ?rv99) rfl (by kernel_rfl) (by kernel_rfl) (by kernel_rfl) (fun _ _ _ h => h) (by rfl) hS (fun w2 hw2 => ?ry99) ?rr99
      case ry99 => ((try dsimp only at hw2); go_simp <;> with_reducible rfl)
      simp only [Act.put, List.setIfInBounds_toArray, List.set_cons_zero, List.set_cons_succ]
      refine rg_skip 15 rfl (by kernel_rfl) (by kernel_rfl) (by kernel_rfl) (fun _ _ _ h => h) (by rfl) hS ?_
      simp only [Act.put, List.setIfInBounds_toArray, List.set_cons_zero, List.set_cons_succ]
      refine rg_skip 16 rfl (by kernel_rfl) (by kernel_rfl) (by kernel_rfl) (fun _ _ _ h => h) (by rfl) hS ?_
      simp only [Act.put, List.setIfInBounds_toArray, List.set_cons_zero, List.set_cons_succ]
      refine rg_skip 17 rfl (by kernel_rfl) (by kernel_rfl) (by kernel_rfl) (fun _ _ _ h => h) (by rfl) hS ?_
      simp only [Act.put, List.setIfInBounds_toArray, List.set_cons_zero, List.set_cons_succ]
      refine rg_take 18 (v := ?rv100) rfl (by kernel_rfl) (by kernel_rfl) (by kernel_rfl) (fun _ _ _ h => h) (by rfl) hS (fun w2 hw2 => ?ry100) ?rr100
      case ry100 => ((try dsimp only at hw2); go_simp <;> with_reducible rfl)
      simp only [Act.put, List.setIfInBounds_toArray, List.set_cons_zero, List.set_cons_succ]
      refine rg_take 19 (v := ?rv101) rfl (by kernel_rfl) (by kernel_rfl) (by kernel_rfl) (fun _ _ _ h => h) (by rfl) hS (fun w2 hw2 => ?ry101) ?rr101
      case ry101 => ((try dsimp only at hw2); go_simp <;> with_reducible rfl)
      simp only [Act.put, List.setIfInBounds_toArray, List.set_cons_zero, List.set_cons_succ]
      refine rg_take 20 (v := ?rv102) rfl (by kernel_rfl) (by kernel_rfl) (by kernel_rfl) (fun _ _ _ h => h) (by rfl) hS (fun w2 hw2 => ?ry102) ?rr102
      case ry102 => ((try dsimp only at hw2); go_simp <;> with_reducible rfl)
      simp only [Act.put, List.setIfInBounds_toArray, List.set_cons_zero, List.set_cons_succ]
      refine rg_take 21 (v := ?rv103) rfl (by kernel_rfl) (by kernel_rfl) (by kernel_rfl) (fun _ _ _ h => h) (by rfl) hS (fun w2 hw2 => ?ry103) ?rr103
      case ry103 => ((try dsimp only at hw2); go_simp <;> with_reducible rfl)
      simp only [Act.put, List.setIfInBounds_toArray, List.set_cons_zero, List.set_cons_succ]
      refine rg_take 22 (v := ?rv104) rfl (by kernel_rfl) (by kernel_rfl) (by kernel_rfl) (fun _ _ _ h => h) (by rfl) hS (fun w2 hw2 => ?ry104) ?rr104
      case ry104 => ((try dsimp only at hw2); go_simp <;> with_reducible rfl)
      simp only [Act.put, List.setIfInBounds_toArray, List.set_cons_zero, List.set_cons_succ]
      refine rg_take 23 (v := ?rv105) rfl (by kernel_rfl) (by kernel_rfl) (by kernel_rfl) (fun _ _ _ h => h) (by rfl) hS (fun w2 hw2 => ?ry105) ?rr105
      case ry105 => ((try dsimp only at hw2); go_simp <;> with_reducible rfl)
      simp only [Act.put, List.setIfInBounds_toArray, List.set_cons_zero, List.set_cons_succ]
      refine rg_take 24 (v := ?rv106) rfl (by kernel_rfl) (by kernel_rfl) (by kernel_rfl) (fun _ _ _ h => h) (by rfl) hS (fun w2 hw2 => ?ry106) ?rr106
      case ry106 => ((try dsimp only at hw2); go_simp <;> with_reducible rfl)
      simp only [Act.put, List.setIfInBounds_toArray, List.set_cons_zero, List.set_cons_succ]
      refine rg_take 25 (v := ?rv107) rfl (by kernel_rfl) (by kernel_rfl) (by kernel_rfl) (fun _ _ _ h => h) (by rfl) hS (fun w2 hw2 => ?ry107) ?rr107
      case ry107 => ((try dsimp only at hw2); go_simp <;> with_reducible rfl)
      simp only [Act.put, List.setIfInBounds_toArray, List.set_cons_zero, List.set_cons_succ]
      refine rg_take 26 (v := ?rv108) rfl (by kernel_rfl) (by kernel_rfl) (by kernel_rfl) (fun _ _ _ h => h) (by rfl) hS (fun w2 hw2 => ?ry108) ?rr108
      case ry108 => ((try dsimp only at hw2); go_simp <;> with_reducible rfl)
      simp only [Act.put, List.setIfInBounds_toArray, List.set_cons_zero, List.set_cons_succ]
      refine rg_take 27 (v := ?rv109) rfl (by kernel_rfl) (by kernel_rfl) (by kernel_rfl) (fun _ _ _ h => h) (by rfl) hS (fun w2 hw2 => ?ry109) ?rr109
      case ry109 => ((try dsimp only at hw2); go_simp <;> with_reducible rfl)
      simp only [Act.put, List.setIfInBounds_toArray, List.set_cons_zero, List.set_cons_succ]
      refine rg_take 28 (v := ?rv110) rfl (by kernel_rfl) (by kernel_rfl) (by kernel_rfl) (fun _ _ _ h => h) (by rfl) hS (fun w2 hw2 => ?ry110) ?rr110
      case ry110 => ((try dsimp only at hw2); go_simp <;> with_reducible rfl)
      simp only [Act.put, List.setIfInBounds_toArray, List.set_cons_zero, List.set_cons_succ]
      refine rg_done (by kernel_rfl) ?_
      have hB := H26.out.2.2.2.2.trans (hS.mono H26.out.2.2.2.2.size)
      clear hS rcz rcd
      go_wp2_with fail
      go_ret
      exact ⟨rfl, hB⟩
    · go_wp2_with fail
      have k24 := parseU_built (sv := false) (dv := false) (sb := zad) (db := zad) (s := ⟨sp1, dp1, pay⟩) (r := []) rfl rfl HM.out HL.out (by simp) (by rw [List.append_nil]; exact HWW.out)
      refine k24.mono ?_
      rintro e w24 ⟨A24, n24, c24, v24, rfl, q24, t24, b24⟩
      clear q24
      obtain ⟨x24, hx24⟩ : ∃ x24 : Dg, (⟨sp1, dp1, pay⟩ : Dg) = x24 := ⟨_, rfl⟩
      dsimp only
      rw [hx24]
      obtain rfl := Tells.none' t24 rfl
      have H24 := Lib.hid (And.intro (H23.out.1.later b24 (Nat.le_refl _)) (And.intro (H23.out.2.1.later b24 (Nat.le_refl _)) (And.intro (H23.out.2.2.1.later b24 (Nat.le_refl _)) (And.intro (H23.out.2.2.2.1.later b24 (Nat.le_refl _)) (H23.out.2.2.2.2.2.trans (b24.mono H23.out.2.2.2.2.2.size))))))
      clear k24 t24 b24
      have hy3 : ¬ (y.toNat : Int) = 0 := fun h => hy (UInt8.toNat_inj.1 (by have h0 : (0 : UInt8).toNat = 0 := rfl; omega))
      have hyb : ((y.toNat : Int) != 0) = true := bne_iff_ne.2 hy3
      have hjd1 : decide ((j : Int) < 4) = false := decide_eq_false (by omega)
      have hjd2 : decide ((7 : Int) < (j : Int)) = false := decide_eq_false (by omega)
      clear hj1 hj2
      go_wp2_with (first
        | (refine wpList_alloc_dg rfl rfl ?_; intro w25 a25 b25 z25; have H25 := Lib.hid (And.intro a25 b25); clear a25 b25 z25)
        | (refine wpList_store_dg rfl (.tmp 15) (.tmp 115) rfl x24 A24 n24 c24 rfl rfl H25.out.1 ?_; intro w26 a26 o26 z26 b26; have bb := b26 _ _ (Nat.le_refl _) H25.out.2; have H26 := Lib.hid (And.intro (H24.out.1.later bb (Nat.le_refl _)) (And.intro (H24.out.2.1.later bb (Nat.le_refl _)) (And.intro (H24.out.2.2.1.later bb (Nat.le_refl _)) (And.intro (H24.out.2.2.2.1.later bb (Nat.le_refl _)) (H24.out.2.2.2.2.trans (bb.mono H24.out.2.2.2.2.size)))))); clear a26 o26 z26 b26 bb))
      have rcz : ∀ w', Below w26.heap.size w26 w' → w'.cell? ⟨w18.heap.size, 2, none⟩ = some (.slice A18 n18 c18) := fun w' h => (H26.out.2.2.2.1.later h (Nat.le_refl _)).cell 2
      have rcd : ∀ w', Below w26.heap.size w26 w' → w'.cell? ⟨w.heap.size, 2, none⟩ = some (.slice B m d) := fun w' h => (H26.out.1.later h (Nat.le_refl _)).cell 2
      have hS : Below w26.heap.size w26 w26.drew := (Below.refl _ _).drew
      have hkd : kn - 8 ≤ d := by have := HN5.out; omega
      have e8 : IntKind.i64.wrap ((kn : Int) - 8) = ((kn - 8 : Nat) : Int) := by rw [IntKind.wrap_i64]; omega
      have E8 := Lib.hid e8
      clear e8
      refine rg_begin (fun w' => Below w26.heap.size w26 w') 29 (by kernel_rfl) rfl ?_
      refine rg_take 0 (v := ?rv111) rfl (by kernel_rfl) (by kernel_rfl) (by kernel_rfl) (fun _ _ _ h => h) (by rfl) hS (fun w2 hw2 => ?ry111) ?rr111
      case ry111 => ((try dsimp only at hw2); go_simp <;> with_reducible rfl)
      simp only [Act.put, List.setIfInBounds_toArray, List.set_cons_zero, List.set_cons_succ]
      refine rg_take 1 (v := ?rv112) rfl (by kernel_rfl) (by kernel_rfl) (by kernel_rfl) (fun _ _ _ h => h) (by rfl) hS (fun w2 hw2 => ?ry112) ?rr112
      case ry112 => ((try dsimp only at hw2); go_simp <;> with_reducible rfl)
      simp only [Act.put, List.setIfInBounds_toArray, List.set_cons_zero, List.set_cons_succ]
      refine rg_take 2 (v := ?rv113) rfl (by kernel_rfl) (by kernel_rfl) (by kernel_rfl) (fun _ _ _ h => h) (by rfl) hS (fun w2 hw2 => ?ry113) ?rr113
      case ry113 => ((try dsimp only at hw2); go_simp <;> with_reducible rfl)
      simp only [Act.put, List.setIfInBounds_toArray, List.set_cons_zero, List.set_cons_succ]
      refine rg_take 3 (v := ?rv114) rfl (by kernel_rfl) (by kernel_rfl) (by kernel_rfl) (fun _ _ _ h => h) (by rfl) hS (fun w2 hw2 => ?ry114) ?rr114
      case ry114 => ((try dsimp only at hw2); go_simp <;> with_reducible rfl)
      simp only [Act.put, List.setIfInBounds_toArray, List.set_cons_zero, List.set_cons_succ]
      refine rg_take 5 (v := ?rv115) rfl (by kernel_rfl) (by kernel_rfl) (by kernel_rfl) (fun _ _ _ h => h) (by rfl) hS (fun w2 hw2 => ?ry115) ?rr115
      case ry115 => ((try dsimp only at hw2); go_simp <;> with_reducible rfl)
      simp only [Act.put, List.setIfInBounds_toArray, List.set_cons_zero, List.set_cons_succ]
      refine rg_take 7 (v := ?rv116) rfl (by kernel_rfl) (by kernel_rfl) (by kernel_rfl) (fun _ _ _ h => h) (by rfl) hS (fun w2 hw2 => ?ry116) ?rr116
      case ry116 => ((try dsimp only at hw2); go_simp <;> with_reducible rfl)
      simp only [Act.put, List.setIfInBounds_toArray, List.set_cons_zero, List.set_cons_succ]
      refine rg_take 4 (v := ?rv117) rfl (by kernel_rfl) (by kernel_rfl) (by kernel_rfl) (fun _ _ _ h => h) (by rfl) hS (fun w2 hw2 => ?ry117) ?rr117
      case ry117 => ((try dsimp only at hw2); go_simp <;> with_reducible rfl)
      simp only [Act.put, List.setIfInBounds_toArray, List.set_cons_zero, List.set_cons_succ]
      refine rg_take 6 (v := ?rv118) rfl (by kernel_rfl) (by kernel_rfl) (by kernel_rfl) (fun _ _ _ h => h) (by rfl) hS (fun w2 hw2 => ?ry118) ?rr118
      case ry118 => ((try dsimp only at hw2); go_simp <;> with_reducible rfl)
      simp only [Act.put, List.setIfInBounds_toArray, List.set_cons_zero, List.set_cons_succ]
      refine rg_take 8 (v := ?rv119) rfl (by kernel_rfl) (by kernel_rfl) (by kernel_rfl) (fun _ _ _ h => h) (by rfl) hS (fun w2 hw2 => ?ry119) ?rr119
      case ry119 => ((try dsimp only at hw2); go_simp <;> with_reducible rfl)
      simp only [Act.put, List.setIfInBounds_toArray, List.set_cons_zero, List.set_cons_succ]
      rw [E8.out]
      refine rg_take 9 (v := .slice B (kn - 8) d) rfl (by kernel_rfl) (by kernel_rfl) (by kernel_rfl) (fun _ _ _ h => h) (by rfl) hS (fun w2 hw2 => ?ryS6) ?rrS6
      case ryS6 => exact exec_slice_first (.tmp 133) (.tmp 135) rfl rfl rfl hkd w2
      simp only [Act.put, List.setIfInBounds_toArray, List.set_cons_zero, List.set_cons_succ]
      refine rg_step 10 rfl (by kernel_rfl) (by rfl) (fun K hK => ?_)
      go_simp
      refine (bytes_same (H26.out.2.2.1.later hS (Nat.le_refl _)) ((HB.out.1.first (k := kn - 8) (by have := HN5.out; omega)).later (H26.out.2.2.2.2.trans (hS.mono H26.out.2.2.2.2.size)) (Nat.le_refl _))).mono ?_
      rintro e w' ⟨rfl, rfl⟩
      refine hK.out _ _ hS ?_
      clear hK K
      try simp only [Act.put, List.setIfInBounds_toArray, List.set_cons_zero, List.set_cons_succ]
      refine rg_take 11 (v := ?rv120) rfl (by kernel_rfl) (by kernel_rfl) (by kernel_rfl) (fun _ _ _ h => h) (by rfl) hS (fun w2 hw2 => ?ry120) ?rr120
      case ry120 => ((try dsimp only at hw2); go_simp <;> with_reducible rfl)
      simp only [Act.put, List.setIfInBounds_toArray, List.set_cons_zero, List.set_cons_succ]
      refine rg_take 12 (v := ?rv121) rfl (by kernel_rfl) (by kernel_rfl) (by kernel_rfl) (fun _ _ _ h => h) (by rfl) hS (fun w2 hw2 => ?ry121) ?rr121
      case ry121 => ((try dsimp only at hw2); go_simp <;> with_reducible rfl)
      simp only [Act.put, List.setIfInBounds_toArray, List.set_cons_zero, List.set_cons_succ]
      refine rg_take 13 (v := ?rv122) rfl (by kernel_rfl) (by kernel_rfl) (by kernel_rfl) (fun _ _ _ h => h) (by rfl) hS (fun w2 hw2 => ?ry122) ?rr122
      case ry122 => ((try dsimp only at hw2); go_simp <;> with_reducible rfl)
      simp only [Act.put, List.setIfInBounds_toArray, List.set_cons_zero, List.set_cons_succ]
      refine rg_take 14 (v := ?rv123) rfl (by kernel_rfl) (by kernel_rfl) (by kernel_rfl) (fun _ _ _ h => h) (by rfl) hS (fun w2 hw2 => ?ry123) ?rr123
      case ry123 => ((try dsimp only at hw2); go_simp <;> with_reducible rfl)
      simp only [Act.put, List.setIfInBounds_toArray, List.set_cons_zero, List.set_cons_succ]
      refine rg_skip 15 rfl (by kernel_rfl) (by kernel_rfl) (by kernel_rfl) (fun _ _ _ h => h) (by rfl) hS ?_
      simp only [Act.put, List.setIfInBounds_toArray, List.set_cons_zero, List.set_cons_succ]
      refine rg_skip 16 rfl (by kernel_rfl) (by kernel_rfl) (by kernel_rfl) (fun _ _ _ h => h) (by rfl) hS ?_
      simp only [Act.put, List.setIfInBounds_toArray, List.set_cons_zero, List.set_cons_succ]
      refine rg_skip 17 rfl (by kernel_rfl) (by kernel_rfl) (by kernel_rfl) (fun _ _ _ h => h) (by rfl) hS ?_
      simp only [Act.put, List.setIfInBounds_toArray, List.set_cons_zero, List.set_cons_succ]
      refine rg_take 18 (v := ?rv124) rfl (by kernel_rfl) (by kernel_rfl) (by kernel_rfl) (fun _ _ _ h => h) (by rfl) hS (fun w2 hw2 => ?ry124) ?rr124
      case ry124 => ((try dsimp only at hw2); go_simp <;> with_reducible rfl)
      simp only [Act.put, List.setIfInBounds_toArray, List.set_cons_zero, List.set_cons_succ]
      refine rg_take 19 (v := ?rv125) rfl (by kernel_rfl) (by kernel_rfl) (by kernel_rfl) (fun _ _ _ h => h) (by rfl) hS (fun w2 hw2 => ?ry125) ?rr125
      case ry125 => ((try dsimp only at hw2); go_simp <;> with_reducible rfl)
      simp only [Act.put, List.setIfInBounds_toArray, List.set_cons_zero, List.set_cons_succ]
      refine rg_take 20 (v := ?rv126) rfl (by kernel_rfl) (by kernel_rfl) (by kernel_rfl) (fun _ _ _ h => h) (by rfl) hS (fun w2 hw2 => ?ry126) ?rr126
      case ry126 => ((try dsimp only at hw2); go_simp <;> with_reducible rfl)
      simp only [Act.put, List.setIfInBounds_toArray, List.set_cons_zero, List.set_cons_succ]
      refine rg_take 21 (v := ?rv127) rfl (by kernel_rfl) (by kernel_rfl) (by kernel_rfl) (fun _ _ _ h => h) (by rfl) hS (fun w2 hw2 => ?ry127) ?rr127
      case ry127 => ((try dsimp only at hw2); go_simp <;> with_reducible rfl)
      simp only [Act.put, List.setIfInBounds_toArray, List.set_cons_zero, List.set_cons_succ]
      refine rg_take 22 (v := ?rv128) rfl (by kernel_rfl) (by kernel_rfl) (by kernel_rfl) (fun _ _ _ h => h) (by rfl) hS (fun w2 hw2 => ?ry128) ?rr128
      case ry128 => ((try dsimp only at hw2); go_simp <;> with_reducible rfl)
      simp only [Act.put, List.setIfInBounds_toArray, List.set_cons_zero, List.set_cons_succ]
      refine rg_take 23 (v := ?rv129) rfl (by kernel_rfl) (by kernel_rfl) (by kernel_rfl) (fun _ _ _ h => h) (by rfl) hS (fun w2 hw2 => ?ry129) ?rr129
      case ry129 => ((try dsimp only at hw2); go_simp <;> with_reducible rfl)
      simp only [Act.put, List.setIfInBounds_toArray, List.set_cons_zero, List.set_cons_succ]
      refine rg_take 24 (v := ?rv130) rfl (by kernel_rfl) (by kernel_rfl) (by kernel_rfl) (fun _ _ _ h => h) (by rfl) hS (fun w2 hw2 => ?ry130) ?rr130
      case ry130 => ((try dsimp only at hw2); go_simp <;> with_reducible rfl)
      simp only [Act.put, List.setIfInBounds_toArray, List.set_cons_zero, List.set_cons_succ]
      refine rg_take 25 (v := ?rv131) rfl (by kernel_rfl) (by kernel_rfl) (by kernel_rfl) (fun _ _ _ h => h) (by rfl) hS (fun w2 hw2 => ?ry131) ?rr131
      case ry131 => ((try dsimp only at hw2); go_simp <;> with_reducible rfl)
      simp only [Act.put, List.setIfInBounds_toArray, List.set_cons_zero, List.set_cons_succ]
      refine rg_take 26 (v := ?rv132) rfl (by kernel_rfl) (by kernel_rfl) (by kernel_rfl) (fun _ _ _ h => h) (by rfl) hS (fun w2 hw2 => ?ry132) ?rr132
      case ry132 => ((try dsimp only at hw2); go_simp <;> with_reducible rfl)
      simp only [Act.put, List.setIfInBounds_toArray, List.set_cons_zero, List.set_cons_succ]
      refine rg_take 27 (v := ?rv133) rfl (by kernel_rfl) (by kernel_rfl) (by kernel_rfl) (fun _ _ _ h => h) (by rfl) hS (fun w2 hw2 => ?ry133) ?rr133
      case ry133 => ((try dsimp only at hw2); go_simp <;> with_reducible rfl)
      simp only [Act.put, List.setIfInBounds_toArray, List.set_cons_zero, List.set_cons_succ]
      refine rg_take 28 (v := ?rv134) rfl (by kernel_rfl) (by kernel_rfl) (by kernel_rfl) (fun _ _ _ h => h) (by rfl) hS (fun w2 hw2 => ?ry134) ?rr134
      case ry134 => ((try dsimp only at hw2); go_simp <;> with_reducible rfl)
      simp only [Act.put, List.setIfInBounds_toArray, List.set_cons_zero, List.set_cons_succ]
      refine rg_done (by kernel_rfl) ?_
      have hB := H26.out.2.2.2.2.trans (hS.mono H26.out.2.2.2.2.size)
      clear hS rcz rcd
      go_wp2_with fail
      go_ret
      exact ⟨rfl, hB⟩
end Go.Proofs.YtkeggeiliachgaaDoor
