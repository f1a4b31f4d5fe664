/-
  stockadelaw12.NameShort answers true, whatever is handed in. Conditions: what the program's text has laid (internal/bytealg.MaxLen holds an int; errors.errorType holds the handle of the type error).
-/
import Derived.Test.YthhfmjdknoplkaaDoorN12LabelsW
import Derived.IntWalk
namespace Go.Proofs.YthhfmjdknoplkaaDoor
open Go.RowKit
set_option maxRecDepth 100000

theorem num_modS (a : Int) (m : Int) (h0 : 0 < m) (h1 : m ≤ 1000) : 0 ≤ wrap64 ((IntKind.u64.wrap a).tmod m) ∧ wrap64 ((IntKind.u64.wrap a).tmod m) < m := by
  have h : IntKind.u64.wrap a = a % 18446744073709551616 := rfl
  have h2 : 0 ≤ IntKind.u64.wrap a := by rw [h]; omega
  rw [Int.tmod_eq_emod_of_nonneg h2]
  have h3 := Int.emod_nonneg (IntKind.u64.wrap a) (show m ≠ 0 by omega)
  have h4 := Int.emod_lt_of_pos (IntKind.u64.wrap a) h0
  rw [show wrap64 (IntKind.u64.wrap a % m) = IntKind.u64.wrap a % m by unfold wrap64; omega]
  omega
theorem read_neg {A : Option Addr} {n c : Nat} {l : List UInt8} {w : World} (hb : Bs w A n c l) (h47 : n ≤ 140737488350000) (at_ : Int) (ha : at_ < 0) : Calls Tryd.prog 13 #[.slice A n c, .int .i64 at_] w fun e w' => ∃ T x, e = .returned (.tuple #[.string ⟨#[]⟩, .int .i64 0, .iface T x]) ∧ Tells w' (.iface T x) ⟨1, 0, false⟩ ∧ Below w.heap.size w w' := by
  have K := Read_any hb h47 at_ (by omega)
  rw [show readv l n at_ = ⟨[], 0, ⟨1, 0, false⟩⟩ from if_pos ha] at K
  refine K.mono ?_
  rintro e w' ⟨v, rfl, t, b⟩
  obtain ⟨T, x, rfl⟩ := Tells.held' t (show (1 : Int) ≠ 0 by decide)
  exact ⟨T, x, rfl, t, b⟩
set_option maxHeartbeats 2000000 in
theorem nameShort (s : ByteArray) (hs : s.size ≤ 9223372036854775807) (cut n : Int) (hn : 0 ≤ n ∧ n ≤ 255) {w : World} (hE : Env w) (hg : Handle w) : Calls Tryd.prog 8 #[.string s, .int .i64 cut, .int .u8 n] w fun e w' => e = .returned (.bool true) ∧ Below w.heap.size w w' := by
  have KP := Lib.hid (playName_any s hs w)
  obtain ⟨hr, h60⟩ := playN_right s.data.toList
  generalize playN s.data.toList = p at KP hr h60
  have hwv : writev p = wireL (labsN p) ++ [0] := by unfold writev; rw [if_pos hr]; rfl
  have hwe : writee p = ⟨0, 0, false⟩ := if_pos hr
  have HE := Lib.hid hE
  have HG := Lib.hid hg
  have KW := fun w1 (hb : Below w.heap.size w w1) => write_any (mkS p) (by rw [mkS_size]; omega) (hE.later hb (Nat.le_refl _))
  rw [mkS_data, hwv, hwe] at KW
  obtain ⟨ls, hls⟩ : ∃ ls, labsN p = ls := ⟨_, rfl⟩
  rw [hls] at KW
  have hsz : 1 + sizeL ls ≤ 255 := by rw [← hls]; exact hr.2
  have HX := Lib.hid (show ∀ x ∈ ls, labOk x by rw [← hls]; exact hr.1)
  have hql : (wireL ls ++ [0]).length = sizeL ls + 1 := by rw [List.length_append, wireL_length]; rfl
  rw [hql] at KW
  obtain ⟨q, hq⟩ : ∃ q, sizeL ls + 1 = q := ⟨_, rfl⟩
  rw [hq] at KW
  have HK := Lib.hid KW
  have HQ := Lib.hid hq
  have hq0 : 0 < q := by omega
  have hq2 : q ≤ 255 := by omega
  clear hE hg hr KW hls hwv hwe hql hq hsz
  obtain ⟨q1, q2⟩ := num_modS cut (q : Int) (by omega) (by omega)
  obtain ⟨y, hy1, hy2, hyv⟩ : ∃ y : UInt8, 64 ≤ y.toNat ∧ y.toNat < 192 ∧ (y.toNat : Int) = 64 + n % 128 := ⟨UInt8.ofNat (64 + n.toNat % 128), by rw [UInt8.toNat_ofNat']; omega, by rw [UInt8.toNat_ofNat']; omega, by rw [UInt8.toNat_ofNat']; omega⟩
  have HY := Lib.hid (And.intro hy1 (And.intro hy2 hyv))
  clear hy1 hy2 hyv
  go_enter Tryd.func8, Tryd.ntmps8
  go_wp2_with fail
  refine KP.out.mono ?_
  rintro e w1 ⟨rfl, b1⟩
  have H1 := Lib.hid b1
  clear b1
  go_wp2_with fail
  refine (HK.out w1 H1.out).mono ?_
  rintro e w2 ⟨A, c, v, rfl, o2, t2, b2⟩
  obtain rfl := Tells.none' t2 rfl
  obtain ⟨A', c', e1, hB⟩ := Bs.of_own o2
  injection e1 with e1 _ e2
  subst e1 e2
  have hcap := hB.cap
  have hmax := hB.max
  unfold maxLen at hmax
  have H2 := Lib.hid (And.intro hB (H1.out.trans (b2.mono H1.out.size)))
  clear o2 t2 b2 hB
  go_wp2_with fail
  refine (awake12 (HE.out.later H2.out.2 (Nat.le_refl _))).mono ?_
  rintro e w4 ⟨rfl, b4⟩
  have hB4 := H2.out.1.later b4 (Nat.le_refl _)
  obtain ⟨b, off, rfl, hc⟩ := hB4.here hq0
  have H4 := Lib.hid (And.intro hB4 (And.intro (H2.out.2.trans (b4.mono H2.out.2.size)) hc))
  clear b4 hB4 hc
  go_wp2_with fail
  generalize wrap64 ((IntKind.u64.wrap cut).tmod (q : Int)) = k at q1 q2 ⊢
  obtain ⟨k, rfl⟩ := Int.eq_ofNat_of_zero_le q1
  have hkq : k < q := by omega
  clear q1 q2
  go_loop [9] (fun a => ∃ (at_ j : Nat), a = .int .i64 at_ ∧ sizeL (ls.take j) = at_ ∧ at_ ≤ k ∧ j ≤ ls.length) (fun a => k - (intOf a).toNat)
  case atStart => exact ⟨0, 0, rfl, rfl, Nat.zero_le _, Nat.zero_le _⟩
  case round =>
    obtain ⟨at_, j, rfl, hat, hle, hj⟩ := hrel
    have hstep : at_ < k → ∃ x, ls[j]? = some x ∧ (wireL ls ++ [0])[at_]? = some (UInt8.ofNat x.length) ∧ sizeL (ls.take (j + 1)) = at_ + 1 + x.length := fun hlt => by
      have hjl : j < ls.length := by
        rcases Nat.lt_or_ge j ls.length with h | h
        · exact h
        · exfalso
          rw [List.take_of_length_le h] at hat
          have := HQ.out
          omega
      obtain ⟨h1, h2⟩ := wire_at (ls := ls) (j := j) (x := ls[j]'hjl) (List.getElem?_eq_getElem hjl) hat (r := [0])
      exact ⟨_, List.getElem?_eq_getElem hjl, h1, h2⟩
    by_cases hgo : at_ < k ∧ ∀ x, ls[j]? = some x → at_ + 1 + x.length ≤ k
    · obtain ⟨hlt, hx⟩ := hgo
      obtain ⟨x, hxj, hxa, hxn⟩ := hstep hlt
      have hxk := hx x hxj
      have hx63 := (HX.out x (List.mem_of_getElem? hxj)).2.2
      have hcell := H4.out.2.2 at_ _ hxa
      rw [show (UInt8.ofNat x.length).toNat = x.length by rw [UInt8.toNat_ofNat']; omega] at hcell
      have HN := Lib.hid hxn
      have hjl : j + 1 ≤ ls.length := (List.getElem?_eq_some_iff.1 hxj).1
      clear hx hxj hxa hxn hstep hat
      go_wp2_with fail
      refine ⟨⟨at_ + 1 + x.length, j + 1, by push_cast; rfl, HN.out, hxk, hjl⟩, by simp only [intOf]; omega⟩
    · have hend : at_ = k ∨ ∃ x, ls[j]? = some x ∧ k < at_ + 1 + x.length ∧ (wireL ls ++ [0])[at_]? = some (UInt8.ofNat x.length) := by
        by_cases hlt : at_ < k
        · obtain ⟨x, hxj, hxa, hxn⟩ := hstep hlt
          refine .inr ⟨x, hxj, ?_, hxa⟩
          rcases Nat.lt_or_ge k (at_ + 1 + x.length) with h | h
          · exact h
          · exact absurd ⟨hlt, fun y hy => by rw [hxj] at hy; obtain rfl := Option.some.inj hy; exact h⟩ hgo
        · exact .inl (by omega)
      have hread : readv ((wireL ls ++ [0]).take k) k 0 = .bad 3 at_ := cut_read HX.out (by have := HQ.out; omega) (by have := HQ.out; omega) hat hle (by
        rcases hend with h | ⟨x, h1, h2, _⟩
        · exact .inl h
        · exact .inr ⟨x, h1, h2⟩) rfl
      have hcut := H4.out.1.cut (i := 0) (k := k) (by omega) (A' := some ⟨b, off, none⟩) (fun _ => rfl) (fun h => h)
      rw [List.drop_zero, Nat.sub_zero] at hcut
      have K1 := Lib.hid (read_no hcut (by omega) 0 (by omega) hread (by decide))
      have hcase : at_ = k ∨ (at_ < k ∧ ∃ m : Nat, m ≤ 63 ∧ k < at_ + 1 + m ∧ w4.cell? ⟨b, off + at_, none⟩ = some (.int .u8 (m : Int))) := by
        rcases hend with h | ⟨x, h1, h2, h3⟩
        · exact .inl h
        · by_cases he : at_ = k
          · exact .inl he
          · have hx63 := (HX.out x (List.mem_of_getElem? h1)).2.2
            have hcell := H4.out.2.2 at_ _ h3
            rw [show (UInt8.ofNat x.length).toNat = x.length by rw [UInt8.toNat_ofNat']; omega] at hcell
            exact .inr ⟨by omega, x.length, hx63, h2, hcell⟩
      clear hstep hat hgo hend hread hcut hj
      rcases hcase with rfl | ⟨hlt, m, hm1, hm2, hcell⟩
      all_goals
        go_wp2_with fail
        refine K1.out.mono ?_
        rintro e w5 ⟨T5, x5, rfl, t5, b5⟩
        have H5 := Lib.hid (And.intro t5 (And.intro (H4.out.1.later b5 (Nat.le_refl _)) (H4.out.2.1.trans (b5.mono H4.out.2.1.size))))
        clear t5 b5
        have hlit := Bs.lit w5 [y, 1, 2, 3] 4 rfl (by unfold maxLen; omega) #[.int .u8 (64 + n % 128), .int .u8 1, .int .u8 2, .int .u8 3] (by simp [bv, HY.out.2.2]) 5
        have K2 := Lib.hid (read_no hlit (by omega) 0 (by omega) (none_read (n := 4) rfl rfl HY.out.1 HY.out.2.1) (by decide))
        have B5 : Below w5.heap.size w5 (w5.alloc (.cells #[.int .u8 (64 + n % 128), .int .u8 1, .int .u8 2, .int .u8 3] 5)) := (Below.refl _ _).alloc (Nat.le_refl _) _
        have H5' := Lib.hid (And.intro (H5.out.1.later B5 (Nat.le_refl _)) (And.intro (H5.out.2.1.later B5 (Nat.le_refl _)) (H5.out.2.2.trans (B5.mono H5.out.2.2.size))))
        clear hlit B5
        go_wp2_with fail
        refine K2.out.mono ?_
        rintro e w6 ⟨T6, x6, rfl, t6, b6⟩
        have H6 := Lib.hid (And.intro (H5'.out.1.later b6 (Nat.le_refl _)) (And.intro t6 (And.intro (H5'.out.2.1.later b6 (Nat.le_refl _)) (H5'.out.2.2.trans (b6.mono H5'.out.2.2.size)))))
        clear t6 b6
        go_wp2_with fail
        refine (read_neg H6.out.2.2.1 (by omega) _ (by omega)).mono ?_
        rintro e w7 ⟨T7, x7, rfl, t7, b7⟩
        have H7 := Lib.hid (And.intro (H6.out.1.later b7 (Nat.le_refl _)) (And.intro (H6.out.2.1.later b7 (Nat.le_refl _)) (And.intro t7 (H6.out.2.2.2.trans (b7.mono H6.out.2.2.2.size)))))
        clear t7 b7
        go_wp2_with fail
        refine (help_at 3 at_ w7).mono ?_
        rintro e w8 ⟨rfl, b8⟩
        have H8 := Lib.hid (And.intro (H7.out.1.later b8 (Nat.le_refl _)) (And.intro (H7.out.2.1.later b8 (Nat.le_refl _)) (And.intro (H7.out.2.2.1.later b8 (Nat.le_refl _)) (H7.out.2.2.2.trans (b8.mono H7.out.2.2.2.size)))))
        clear b8
        go_wp2_with fail
        refine (is_told3 H8.out.1 (HG.out.later H8.out.2.2.2 (Nat.le_refl _))).mono ?_
        rintro e w9 ⟨rfl, b9⟩
        have H9 := Lib.hid (And.intro (H8.out.2.1.later b9 (Nat.le_refl _)) (And.intro (H8.out.2.2.1.later b9 (Nat.le_refl _)) (H8.out.2.2.2.trans (b9.mono H8.out.2.2.2.size))))
        clear b9
        go_wp2_with fail
        refine (help_at 12 0 w9).mono ?_
        rintro e w10 ⟨rfl, b10⟩
        have H10 := Lib.hid (And.intro (H9.out.1.later b10 (Nat.le_refl _)) (And.intro (H9.out.2.1.later b10 (Nat.le_refl _)) (H9.out.2.2.trans (b10.mono H9.out.2.2.size))))
        clear b10
        go_wp2_with fail
        refine (is_told3 H10.out.1 (HG.out.later H10.out.2.2 (Nat.le_refl _))).mono ?_
        rintro e w11 ⟨rfl, b11⟩
        have H11 := Lib.hid (And.intro (H10.out.2.1.later b11 (Nat.le_refl _)) (H10.out.2.2.trans (b11.mono H10.out.2.2.size)))
        clear b11
        go_wp2_with fail
        refine (help_bare 1 w11).mono ?_
        rintro e w12 ⟨rfl, b12⟩
        have H12 := Lib.hid (And.intro (H11.out.1.later b12 (Nat.le_refl _)) (H11.out.2.trans (b12.mono H11.out.2.size)))
        clear b12
        go_wp2_with fail
        refine (is_told3 H12.out.1 (HG.out.later H12.out.2 (Nat.le_refl _))).mono ?_
        rintro e w13 ⟨rfl, b13⟩
        have H13 := Lib.hid (H12.out.2.trans (b13.mono H12.out.2.size))
        clear b13
        go_wp2_with fail
        go_ret
        exact ⟨rfl, H13.out⟩
end Go.Proofs.YthhfmjdknoplkaaDoor
