/-
  stockadelaw05.EtherBack answers true, whatever is handed in. Conditions: those of the slice; errors.errorType holds the handle of the type error.
-/
import Derived.Test.YtheiljdilbobdaaDoorRefEther
import Derived.Test.YtheiljdilbobdaaDoorAwake05
import Derived.Test.YtheiljdilbobdaaDoorEShortW
import Derived.Test.YtheiljdilbobdaaDoorReg
namespace Go.Proofs.YtheiljdilbobdaaDoor
open Go.RowKit

theorem be_put2' (v : Int) : (be (putn v 2) : Int) = v % 65536 := by
  have h1 := byte_cell (v / 256)
  have h0 := byte_cell v
  have e1 : (2 : Int) ^ (8 * 1) = 256 := rfl
  have e0 : (2 : Int) ^ (8 * 0) = 1 := rfl
  simp only [putn, be, List.foldl_cons, List.foldl_nil, e1, e0, Int.ediv_one, Nat.zero_mul, Nat.zero_add, Int.natCast_add, Int.natCast_mul, h1, h0]
  omega
theorem needOf_in {N i : Nat} (h : i + 2 ≤ N) : needOf N i 2 = ⟨0, 0, false⟩ := by
  unfold needOf
  rw [if_neg (by omega), if_neg (by omega)]
theorem numAt_in {l r : List UInt8} {N i : Nat} {x y : UInt8} (h : l.drop i = x :: y :: r) (hN : i + 2 ≤ N) : numAt l N i 2 = be [x, y] := by
  unfold numAt
  rw [show ((2 : Nat) : Int) = 2 from rfl, needOf_in hN, if_pos rfl, Int.toNat_natCast, h]
  rfl
theorem etherAt_in {l r : List UInt8} {N i : Nat} {kind : Int} (t : Nat) (h : l.drop i = putn kind 2 ++ r) (hN : i + 2 ≤ N) (hk : fit kind) (hk2 : kind ≠ 33024) : etherAt l N t i = (kind, (i : Int) + 2, ⟨0, 0, false⟩) := by
  have hn : numAt l N i 2 = be (putn kind 2) := numAt_in (h.trans rfl) hN
  have hb := be_put2' kind
  have hm : kind % 65536 = kind := by unfold fit at hk; omega
  rw [hm] at hb
  rw [etherAt_kind t (by rw [needOf_in hN]) (by rw [hn]; omega), hn, hb]
theorem etherAt_over {l r : List UInt8} {N i t : Nat} (h : l.drop i = 129 :: 0 :: r) (hN : i + 2 ≤ N) : etherAt l N (t + 1) i = etherAt l N t (i + 4 : Nat) := by
  rw [etherAt_tag t ((numAt_in h hN).trans rfl)]
  rfl
theorem etherv_built {kind : Int} {zs : List Int} {l : List UInt8} {N : Nat} (hN : N = 14 + 4 * zs.length + l.length) (hk : fit kind) (hk2 : kind ≠ 33024) (hz : zs.length ≤ 2) (h2 : N ≤ 2000) : etherv (headv kind zs ++ l) N = (kind, 14 + 4 * (zs.length : Int), ⟨0, 0, false⟩) := by
  unfold etherv
  rw [if_neg (by omega)]
  match zs, hz with
  | [], _ =>
    have hN : N = 14 + 4 * 0 + l.length := hN
    rw [show (12 : Int) = ((12 : Nat) : Int) from rfl, etherAt_in (l := headv kind [] ++ l) (r := l) 2 rfl (by omega) hk hk2]
    rfl
  | [a], _ =>
    have hN : N = 14 + 4 * 1 + l.length := hN
    rw [show (12 : Int) = ((12 : Nat) : Int) from rfl, etherAt_over (l := headv kind [a] ++ l) (i := 12) (r := putn a 2 ++ putn kind 2 ++ l) rfl (by omega), etherAt_in (l := headv kind [a] ++ l) (i := 12 + 4) (r := l) 1 rfl (by omega) hk hk2]
    rfl
  | [a, b], _ =>
    have hN : N = 14 + 4 * 2 + l.length := hN
    rw [show (12 : Int) = ((12 : Nat) : Int) from rfl, etherAt_over (l := headv kind [a, b] ++ l) (i := 12) (r := putn a 2 ++ putn 33024 2 ++ putn b 2 ++ putn kind 2 ++ l) rfl (by omega), etherAt_over (l := headv kind [a, b] ++ l) (i := 12 + 4) (r := putn b 2 ++ putn kind 2 ++ l) rfl (by omega), etherAt_in (l := headv kind [a, b] ++ l) (i := 12 + 4 + 4) (r := l) 0 rfl (by omega) hk hk2]
    rfl
def deep12 : List UInt8 := [129, 0, 0, 0, 129, 0, 0, 0, 129, 0, 0, 0]
theorem etherv_deep {r : List UInt8} {N : Nat} (h1 : 24 ≤ N) (h2 : N ≤ 2000) : etherv (zero12 ++ deep12 ++ r) N = (0, 0, ⟨11, 20, true⟩) := by
  unfold etherv
  rw [if_neg (by omega), show (12 : Int) = ((12 : Nat) : Int) from rfl, etherAt_over (l := zero12 ++ deep12 ++ r) (i := 12) (r := [0, 0, 129, 0, 0, 0, 129, 0, 0, 0] ++ r) rfl (by omega), etherAt_over (l := zero12 ++ deep12 ++ r) (i := 12 + 4) (r := [0, 0, 129, 0, 0, 0] ++ r) rfl (by omega),
    etherAt_deep ((numAt_in (l := zero12 ++ deep12 ++ r) (i := 12 + 4 + 4) (r := [0, 0] ++ r) rfl (by omega)).trans rfl)]
  rfl

set_option maxRecDepth 100000 in
set_option maxHeartbeats 4000000 in
theorem etherBack {A : Option Addr} {n c : Nat} {l : List UInt8} {w : World} (hb : Bs w A n c l) (k0 a0 b0 t0 : Int) (hg : Handle w) : Calls Tryd.prog 4 #[.int .i64 k0, .int .i64 a0, .int .i64 b0, .int .i64 t0, .slice A n c] w fun e w' => e = .returned (.bool true) ∧ Below w.heap.size w w' := by
  have hm := Nat.le_trans hb.cap hb.max
  unfold maxLen at hm
  have HG := Lib.hid hg
  have HB := Lib.hid hb
  have mk := num_mod5 k0 65536 (by omega) (by omega)
  have mt := num_mod5 t0 3 (by omega) (by omega)
  have ma := num_mod5 a0 65536 (by omega) (by omega)
  have mb := num_mod5 b0 65536 (by omega) (by omega)
  clear hb hg
  by_cases hk33 : wrap64 ((IntKind.u64.wrap k0).tmod 65536) = 33024
  · go_enter Tryd.func4, Tryd.ntmps4
    go_wp2_with fail
    refine (awake05 _).mono ?_
    rintro e w1 ⟨rfl, h1⟩
    have H1 := Lib.hid h1
    clear h1
    go_wp2_with fail
    go_ret
    exact ⟨rfl, H1.out⟩
  by_cases hbig : 1900 < n
  · have hq : (1900 : Int) < (n : Int) := by omega
    go_enter Tryd.func4, Tryd.ntmps4
    go_wp2_with fail
    refine (awake05 _).mono ?_
    rintro e w1 ⟨rfl, h1⟩
    have H1 := Lib.hid h1
    clear h1
    go_wp2_with fail
    go_ret
    exact ⟨rfl, H1.out⟩
  have hb0 : (wrap64 ((IntKind.u64.wrap k0).tmod 65536) == 33024) = false := by simp [hk33]
  have hb1 : decide ((1900 : Int) < (n : Int)) = false := by simp; omega
  go_enter Tryd.func4, Tryd.ntmps4
  go_wp2_with fail
  generalize wrap64 ((IntKind.u64.wrap t0).tmod 3) = xt at mt ⊢
  generalize wrap64 ((IntKind.u64.wrap k0).tmod 65536) = kind at mk hk33 ⊢
  generalize wrap64 ((IntKind.u64.wrap a0).tmod 65536) = a at ma ⊢
  generalize wrap64 ((IntKind.u64.wrap b0).tmod 65536) = b at mb ⊢
  clear hb0 hb1
  obtain ⟨t, rfl⟩ := Int.eq_ofNat_of_zero_le mt.1
  have mt : t < 3 := by omega
  simp only [Int.toNat_natCast]
  have hz : Zs (w.alloc (.cells #[.int .i64 a, .int .i64 b] 3)) (some ⟨w.heap.size, 0, none⟩) t (([a, b] : List Int).take t) := by
    refine ⟨by simp; omega, by unfold maxLen; omega, fun i z hi => ?_⟩
    rw [List.getElem?_take] at hi
    split at hi
    · match i, hi with
      | 0, hi => obtain rfl := Option.some.inj hi.symm; exact ⟨_, _, rfl, by simp⟩
      | 1, hi => obtain rfl := Option.some.inj hi.symm; exact ⟨_, _, rfl, by simp⟩
      | i + 2, hi => simp at hi
    · cases hi
  obtain ⟨zs, hzs⟩ : ∃ zs, ([a, b] : List Int).take t = zs := ⟨_, rfl⟩
  have hfz : ∀ z ∈ zs, fit z := by
    rw [← hzs]
    intro z h
    rcases List.mem_cons.1 (List.mem_of_mem_take h) with rfl | h
    · exact ⟨ma.1, by omega⟩
    · obtain rfl := List.mem_singleton.1 h
      exact ⟨mb.1, by omega⟩
  rw [hzs] at hz
  have hzl : zs.length = t := hz.1
  have hfk : fit kind := ⟨mk.1, by omega⟩
  have hmay : mayBuild kind zs n := ⟨hfk, hk33, by omega, hfz, by omega⟩
  have B0 := (Below.refl w.heap.size w).alloc (Nat.le_refl _) (.cells #[.int .i64 a, .int .i64 b] 3)
  have k1 := build_ether (d := 2) kind hz (HB.out.later B0 (Nat.le_refl _))
  rw [(build_yes (l := l) hmay).1, (build_yes (l := l) hmay).2] at k1
  have hev := etherv_built (l := l) (N := 14 + 4 * t + n) (by rw [hzl, HB.out.len]) hfk hk33 (by omega) (by omega)
  rw [hzl] at hev
  have K1 := Lib.hid (And.intro k1 (And.intro B0 (And.intro hzl (And.intro hev hfk))))
  clear hz hfz hmay B0 k1 hzs hev hzl hfk ma mb
  refine K1.out.1.mono ?_
  rintro e w1 ⟨A1, n1, d1, v1, rfl, hb1, t1, b1⟩
  obtain rfl := t1.none_ rfl
  have hn1 : 14 + 4 * t + n = n1 := by rw [← hb1.len, List.length_append, head_len, K1.out.2.2.1, HB.out.len]
  subst hn1
  have H1 := Lib.hid (And.intro hb1 (K1.out.2.1.trans (b1.mono K1.out.2.1.size)))
  clear hb1 t1 b1
  go_wp2_with fail
  refine (parse_ether H1.out.1).mono ?_
  rintro e w2 ⟨v2, rfl, t2, b2⟩
  rw [K1.out.2.2.2.1] at t2 ⊢
  obtain rfl := t2.none_ rfl
  have H2 := Lib.hid (And.intro (H1.out.1.later b2 (Nat.le_refl _)) (H1.out.2.trans (b2.mono H1.out.2.size)))
  clear t2 b2
  go_wp2_with fail
  refine (awake05 _).mono ?_
  rintro e w3 ⟨rfl, b3⟩
  have H3 := Lib.hid (And.intro (H2.out.1.later b3 (Nat.le_refl _)) (H2.out.2.trans (b3.mono H2.out.2.size)))
  clear b3
  have hcap := H3.out.1.cap
  obtain ⟨gb, off, rfl, _⟩ := H3.out.1.here (by omega)
  have hd1 : ¬ d1 = 12 := by omega
  have s1 : (12 : Int) ≤ (d1 : Int) := by omega
  have s2 : (12 : Int) ≤ 14 + 4 * (t : Int) + (n : Int) := by omega
  go_wp2_with fail
  have h12 := H3.out.1.head (k := 12) (by omega)
  have hdr := H3.out.1.cut (i := 12) (k := 14 + 4 * t + n - 12) (by omega) (A' := some ⟨gb, off + 12, none⟩) (fun _ => by simp [add_plain]) (by simp)
  rw [show (headv kind zs ++ l).take 12 = zero12 from rfl] at h12
  rw [show (headv kind zs ++ l).drop 12 = tagsv zs ++ putn kind 2 ++ l from rfl, List.take_of_length_le (by simp [tagsv_length, putn_length, K1.out.2.2.1, HB.out.len]; omega)] at hdr
  have HS := Lib.hid (And.intro h12 hdr)
  clear h12 hdr
  have hS : Below w3.heap.size w3 w3.drew := (Below.refl _ _).drew
  refine rg_begin (fun w' => Below w3.heap.size w3 w') 9 (by kernel_rfl) rfl ?_
  refine rg_take 0 (v := ?rv1) rfl (by kernel_rfl) (by kernel_rfl) (by kernel_rfl) (fun _ _ _ h => h) (by rfl) hS (fun w2 hw2 => ?ry1) ?rr1
  case ry1 => ((try dsimp only at hw2); go_simp <;> with_reducible rfl)
  simp only [Act.put, List.setIfInBounds_toArray, List.set_cons_zero, List.set_cons_succ]
  refine rg_take 5 (v := ?rv2) rfl (by kernel_rfl) (by kernel_rfl) (by kernel_rfl) (fun _ _ _ h => h) (by rfl) hS (fun w2 hw2 => ?ry2) ?rr2
  case ry2 => ((try dsimp only at hw2); go_simp <;> with_reducible rfl)
  simp only [Act.put, List.setIfInBounds_toArray, List.set_cons_zero, List.set_cons_succ]
  refine rg_take 1 (v := ?rv3) rfl (by kernel_rfl) (by kernel_rfl) (by kernel_rfl) (fun _ _ _ h => h) (by rfl) hS (fun w2 hw2 => ?ry3) ?rr3
  case ry3 => ((try dsimp only at hw2); go_simp <;> with_reducible rfl)
  simp only [Act.put, List.setIfInBounds_toArray, List.set_cons_zero, List.set_cons_succ]
  refine rg_take 6 (v := ?rv4) rfl (by kernel_rfl) (by kernel_rfl) (by kernel_rfl) (fun _ _ _ h => h) (by rfl) hS (fun w2 hw2 => ?ry4) ?rr4
  case ry4 => ((try dsimp only at hw2); go_simp <;> with_reducible rfl)
  simp only [Act.put, List.setIfInBounds_toArray, List.set_cons_zero, List.set_cons_succ]
  refine rg_any [2, 3] (by kernel_rfl) (by simp) ?_
  refine rg_or 2 rfl (by rfl) (fun K hK => ?_) ?_
  · refine wp_append_bs (.const (.slice none 0 0)) (.tmp 90) 22 rfl w3.heap.size 5 info5 Tryd.underlying22 (.slice none 0 0) 0 [] rfl (World.ownsRow_nil _ _ _ _) _ 12 d1 _ rfl (HS.out.1.later hS (Nat.le_refl _)) (by omega) hS.size ?_
    intro v5 w5 o5 g5 _ _
    replace hS := hS.grown g5 hS.size (fun q hq => by cases hq)
    have H5 := Lib.hid o5
    clear o5 g5
    refine hK.out _ _ hS ?_
    clear hK K
    try simp only [Act.put, List.setIfInBounds_toArray, List.set_cons_zero, List.set_cons_succ]
    refine rg_step 3 rfl (by kernel_rfl) (by rfl) (fun K hK => ?_)
    go_simp
    have H6 := Lib.hid (And.intro (own_kept H5.out ((Below.refl _ w5).alloc (Nat.le_refl _) (.cells #[.int .u8 129, .int .u8 0, .int .u8 0, .int .u8 0, .int .u8 129, .int .u8 0, .int .u8 0, .int .u8 0, .int .u8 129, .int .u8 0, .int .u8 0, .int .u8 0] 5))) (Bs.lit w5 deep12 12 rfl (by unfold maxLen; omega) #[.int .u8 129, .int .u8 0, .int .u8 0, .int .u8 0, .int .u8 129, .int .u8 0, .int .u8 0, .int .u8 0, .int .u8 129, .int .u8 0, .int .u8 0, .int .u8 0] rfl 5))
    replace hS := hS.alloc hS.size (.cells #[.int .u8 129, .int .u8 0, .int .u8 0, .int .u8 0, .int .u8 129, .int .u8 0, .int .u8 0, .int .u8 0, .int .u8 129, .int .u8 0, .int .u8 0, .int .u8 0] 5)
    refine hK.out _ _ hS ?_
    clear hK K
    try simp only [Act.put, List.setIfInBounds_toArray, List.set_cons_zero, List.set_cons_succ]
    refine rg_step 4 rfl (by kernel_rfl) (by rfl) (fun K hK => ?_)
    refine wp_append_bs (.tmp 91) (.tmp 92) 22 rfl w3.heap.size 5 info5 Tryd.underlying22 _ _ _ rfl H6.out.1 _ 12 12 _ rfl H6.out.2 (by omega) hS.size ?_
    intro v7 w7 o7 g7 _ _
    replace hS := hS.grown g7 hS.size (fun q hq => (H6.out.1.lt q hq).1)
    have H7 := Lib.hid o7
    clear o7 g7
    refine hK.out _ _ hS ?_
    clear hK K
    try simp only [Act.put, List.setIfInBounds_toArray, List.set_cons_zero, List.set_cons_succ]
    refine rg_step 7 rfl (by kernel_rfl) (by rfl) (fun K hK => ?_)
    refine wp_append_bs (.tmp 93) (.tmp 95) 22 rfl w3.heap.size 5 info5 Tryd.underlying22 _ _ _ rfl H7.out _ _ _ _ rfl (HS.out.2.later hS (Nat.le_refl _)) (by omega) hS.size ?_
    intro v8 w8 o8 g8 _ _
    replace hS := hS.grown g8 hS.size (fun q hq => (H7.out.lt q hq).1)
    obtain ⟨A8, c8, rfl, hB8⟩ := Bs.of_own (owns_n (n' := 26 + 4 * t + n) (by omega) o8)
    have hw := H3.out.2.trans (hS.mono H3.out.2.size)
    have H8 := Lib.hid (And.intro hB8 (And.intro (H3.out.1.later hS (Nat.le_refl _)) hw))
    clear o8 g8 hB8 hw
    refine hK.out _ _ hS ?_
    clear hK K
    try simp only [Act.put, List.setIfInBounds_toArray, List.set_cons_zero, List.set_cons_succ]
    refine rg_take 8 (v := ?rv5) rfl (by kernel_rfl) (by kernel_rfl) (by kernel_rfl) (fun _ _ _ h => h) (by rfl) hS (fun w2 hw2 => ?ry5) ?rr5
    case ry5 => ((try dsimp only at hw2); go_simp <;> with_reducible rfl)
    simp only [Act.put, List.setIfInBounds_toArray, List.set_cons_zero, List.set_cons_succ]
    refine rg_done (by kernel_rfl) ?_
    clear hS
    go_wp2_with fail
    refine (parse_ether H8.out.1).mono ?_
    rintro e w9 ⟨v9, rfl, t9, b9⟩
    have H9 := Lib.hid (And.intro t9 (And.intro (H8.out.2.1.later b9 (Nat.le_refl _)) (H8.out.2.2.trans (b9.mono H8.out.2.2.size))))
    have HB9 := HB.out.later H9.out.2.2 (Nat.le_refl _)
    clear t9 b9
    have s3 : (14 : Int) + 4 * (t : Int) ≤ (d1 : Int) := by omega
    have s4 : (14 : Int) + 4 * (t : Int) ≤ 14 + 4 * (t : Int) + (n : Int) := by omega
    have hdl : ((headv kind zs ++ l).drop (14 + 4 * t)).take n = l := by rw [List.drop_left' (by rw [head_len, K1.out.2.2.1]), List.take_of_length_le (by rw [HB.out.len]; omega)]
    by_cases hd2 : d1 = 14 + 4 * t
    · have ha := H9.out.2.1.cut (i := 14 + 4 * t) (k := n) (by omega) (A' := some ⟨gb, off, none⟩) (fun h => by omega) (by simp)
      rw [hdl] at ha
      clear hdl
      have hn0 : n = 0 := by omega
      subst hd2
      rw [Nat.sub_self, hn0] at ha
      clear hn0
      have HA := Lib.hid ha
      clear ha
      go_wp2_with fail
      refine (bytes_same HA.out HB9).mono ?_
      rintro e w' ⟨rfl, rfl⟩
      by_cases hN : 2000 < 26 + 4 * t + n
      · have hN2 : (2000 : Int) < 26 + 4 * (t : Int) + (n : Int) := by omega
        go_wp2_with fail
        go_ret
        exact ⟨rfl, H9.out.2.2⟩
      · have hN2 : ¬ (2000 : Int) < 26 + 4 * (t : Int) + (n : Int) := by omega
        have t9 := H9.out.1
        rw [show ([] ++ zero12 ++ deep12 ++ (tagsv zs ++ putn kind 2 ++ l) : List UInt8) = zero12 ++ deep12 ++ (tagsv zs ++ putn kind 2 ++ l) from rfl, etherv_deep (by omega) (by omega)] at t9
        have HT := Lib.hid t9
        clear t9
        go_wp2_with fail
        refine (help_at 11 20 _).mono ?_
        rintro e w10 ⟨rfl, b10⟩
        have H10 := Lib.hid (And.intro (HT.out.later b10 (Nat.le_refl _)) (H9.out.2.2.trans (b10.mono H9.out.2.2.size)))
        clear b10
        go_wp2_with fail
        refine (is_told3 H10.out.1 (HG.out.later H10.out.2 (Nat.le_refl _))).mono ?_
        rintro e w11 ⟨rfl, b11⟩
        have H11 := Lib.hid (H10.out.2.trans (b11.mono H10.out.2.size))
        clear b11
        go_wp2_with fail
        go_ret
        exact ⟨rfl, H11.out⟩
    · have ha := H9.out.2.1.cut (i := 14 + 4 * t) (k := n) (by omega) (A' := some ⟨gb, off + (14 + 4 * t), none⟩) (fun _ => by simp [add_plain]) (by simp)
      rw [hdl] at ha
      have HA := Lib.hid ha
      clear ha hdl
      go_wp2_with fail
      refine (bytes_same HA.out HB9).mono ?_
      rintro e w' ⟨rfl, rfl⟩
      by_cases hN : 2000 < 26 + 4 * t + n
      · have hN2 : (2000 : Int) < 26 + 4 * (t : Int) + (n : Int) := by omega
        go_wp2_with fail
        go_ret
        exact ⟨rfl, H9.out.2.2⟩
      · have hN2 : ¬ (2000 : Int) < 26 + 4 * (t : Int) + (n : Int) := by omega
        have t9 := H9.out.1
        rw [show ([] ++ zero12 ++ deep12 ++ (tagsv zs ++ putn kind 2 ++ l) : List UInt8) = zero12 ++ deep12 ++ (tagsv zs ++ putn kind 2 ++ l) from rfl, etherv_deep (by omega) (by omega)] at t9
        have HT := Lib.hid t9
        clear t9
        go_wp2_with fail
        refine (help_at 11 20 _).mono ?_
        rintro e w10 ⟨rfl, b10⟩
        have H10 := Lib.hid (And.intro (HT.out.later b10 (Nat.le_refl _)) (H9.out.2.2.trans (b10.mono H9.out.2.2.size)))
        clear b10
        go_wp2_with fail
        refine (is_told3 H10.out.1 (HG.out.later H10.out.2 (Nat.le_refl _))).mono ?_
        rintro e w11 ⟨rfl, b11⟩
        have H11 := Lib.hid (H10.out.2.trans (b11.mono H10.out.2.size))
        clear b11
        go_wp2_with fail
        go_ret
        exact ⟨rfl, H11.out⟩
  refine rg_or 3 rfl (by rfl) (fun K hK => ?_) AllReadyH.nil
  go_simp
  have hl4 := Lib.hid (Bs.lit w3.drew deep12 12 rfl (by unfold maxLen; omega) #[.int .u8 129, .int .u8 0, .int .u8 0, .int .u8 0, .int .u8 129, .int .u8 0, .int .u8 0, .int .u8 0, .int .u8 129, .int .u8 0, .int .u8 0, .int .u8 0] rfl 5)
  replace hS := hS.alloc hS.size (.cells #[.int .u8 129, .int .u8 0, .int .u8 0, .int .u8 0, .int .u8 129, .int .u8 0, .int .u8 0, .int .u8 0, .int .u8 129, .int .u8 0, .int .u8 0, .int .u8 0] 5)
  refine hK.out _ _ hS ?_
  clear hK K
  try simp only [Act.put, List.setIfInBounds_toArray, List.set_cons_zero, List.set_cons_succ]
  refine rg_step 2 rfl (by kernel_rfl) (by rfl) (fun K hK => ?_)
  refine wp_append_bs (.const (.slice none 0 0)) (.tmp 90) 22 rfl w3.heap.size 5 info5 Tryd.underlying22 (.slice none 0 0) 0 [] rfl (World.ownsRow_nil _ _ _ _) _ 12 d1 _ rfl (HS.out.1.later hS (Nat.le_refl _)) (by omega) hS.size ?_
  intro v5 w5 o5 g5 _ _
  have H6 := Lib.hid (And.intro o5 (hl4.out.later ((Below.refl _ _).grown g5 (Nat.le_refl _) (fun q hq => by cases hq)) (Nat.le_refl _)))
  replace hS := hS.grown g5 hS.size (fun q hq => by cases hq)
  clear o5 g5 hl4
  refine hK.out _ _ hS ?_
  clear hK K
  try simp only [Act.put, List.setIfInBounds_toArray, List.set_cons_zero, List.set_cons_succ]
  refine rg_step 4 rfl (by kernel_rfl) (by rfl) (fun K hK => ?_)
  refine wp_append_bs (.tmp 91) (.tmp 92) 22 rfl w3.heap.size 5 info5 Tryd.underlying22 _ _ _ rfl H6.out.1 _ 12 12 _ rfl H6.out.2 (by omega) hS.size ?_
  intro v7 w7 o7 g7 _ _
  replace hS := hS.grown g7 hS.size (fun q hq => (H6.out.1.lt q hq).1)
  have H7 := Lib.hid o7
  clear o7 g7
  refine hK.out _ _ hS ?_
  clear hK K
  try simp only [Act.put, List.setIfInBounds_toArray, List.set_cons_zero, List.set_cons_succ]
  refine rg_step 7 rfl (by kernel_rfl) (by rfl) (fun K hK => ?_)
  refine wp_append_bs (.tmp 93) (.tmp 95) 22 rfl w3.heap.size 5 info5 Tryd.underlying22 _ _ _ rfl H7.out _ _ _ _ rfl (HS.out.2.later hS (Nat.le_refl _)) (by omega) hS.size ?_
  intro v8 w8 o8 g8 _ _
  replace hS := hS.grown g8 hS.size (fun q hq => (H7.out.lt q hq).1)
  obtain ⟨A8, c8, rfl, hB8⟩ := Bs.of_own (owns_n (n' := 26 + 4 * t + n) (by omega) o8)
  have hw := H3.out.2.trans (hS.mono H3.out.2.size)
  have H8 := Lib.hid (And.intro hB8 (And.intro (H3.out.1.later hS (Nat.le_refl _)) hw))
  clear o8 g8 hB8 hw
  refine hK.out _ _ hS ?_
  clear hK K
  try simp only [Act.put, List.setIfInBounds_toArray, List.set_cons_zero, List.set_cons_succ]
  refine rg_take 8 (v := ?rv6) rfl (by kernel_rfl) (by kernel_rfl) (by kernel_rfl) (fun _ _ _ h => h) (by rfl) hS (fun w2 hw2 => ?ry6) ?rr6
  case ry6 => ((try dsimp only at hw2); go_simp <;> with_reducible rfl)
  simp only [Act.put, List.setIfInBounds_toArray, List.set_cons_zero, List.set_cons_succ]
  refine rg_done (by kernel_rfl) ?_
  clear hS
  go_wp2_with fail
  refine (parse_ether H8.out.1).mono ?_
  rintro e w9 ⟨v9, rfl, t9, b9⟩
  have H9 := Lib.hid (And.intro t9 (And.intro (H8.out.2.1.later b9 (Nat.le_refl _)) (H8.out.2.2.trans (b9.mono H8.out.2.2.size))))
  have HB9 := HB.out.later H9.out.2.2 (Nat.le_refl _)
  clear t9 b9
  have s3 : (14 : Int) + 4 * (t : Int) ≤ (d1 : Int) := by omega
  have s4 : (14 : Int) + 4 * (t : Int) ≤ 14 + 4 * (t : Int) + (n : Int) := by omega
  have hdl : ((headv kind zs ++ l).drop (14 + 4 * t)).take n = l := by rw [List.drop_left' (by rw [head_len, K1.out.2.2.1]), List.take_of_length_le (by rw [HB.out.len]; omega)]
  by_cases hd2 : d1 = 14 + 4 * t
  · have ha := H9.out.2.1.cut (i := 14 + 4 * t) (k := n) (by omega) (A' := some ⟨gb, off, none⟩) (fun h => by omega) (by simp)
    rw [hdl] at ha
    clear hdl
    have hn0 : n = 0 := by omega
    subst hd2
    rw [Nat.sub_self, hn0] at ha
    clear hn0
    have HA := Lib.hid ha
    clear ha
    go_wp2_with fail
    refine (bytes_same HA.out HB9).mono ?_
    rintro e w' ⟨rfl, rfl⟩
    by_cases hN : 2000 < 26 + 4 * t + n
    · have hN2 : (2000 : Int) < 26 + 4 * (t : Int) + (n : Int) := by omega
      go_wp2_with fail
      go_ret
      exact ⟨rfl, H9.out.2.2⟩
    · have hN2 : ¬ (2000 : Int) < 26 + 4 * (t : Int) + (n : Int) := by omega
      have t9 := H9.out.1
      rw [show ([] ++ zero12 ++ deep12 ++ (tagsv zs ++ putn kind 2 ++ l) : List UInt8) = zero12 ++ deep12 ++ (tagsv zs ++ putn kind 2 ++ l) from rfl, etherv_deep (by omega) (by omega)] at t9
      have HT := Lib.hid t9
      clear t9
      go_wp2_with fail
      refine (help_at 11 20 _).mono ?_
      rintro e w10 ⟨rfl, b10⟩
      have H10 := Lib.hid (And.intro (HT.out.later b10 (Nat.le_refl _)) (H9.out.2.2.trans (b10.mono H9.out.2.2.size)))
      clear b10
      go_wp2_with fail
      refine (is_told3 H10.out.1 (HG.out.later H10.out.2 (Nat.le_refl _))).mono ?_
      rintro e w11 ⟨rfl, b11⟩
      have H11 := Lib.hid (H10.out.2.trans (b11.mono H10.out.2.size))
      clear b11
      go_wp2_with fail
      go_ret
      exact ⟨rfl, H11.out⟩
  · have ha := H9.out.2.1.cut (i := 14 + 4 * t) (k := n) (by omega) (A' := some ⟨gb, off + (14 + 4 * t), none⟩) (fun _ => by simp [add_plain]) (by simp)
    rw [hdl] at ha
    have HA := Lib.hid ha
    clear ha hdl
    go_wp2_with fail
    refine (bytes_same HA.out HB9).mono ?_
    rintro e w' ⟨rfl, rfl⟩
    by_cases hN : 2000 < 26 + 4 * t + n
    · have hN2 : (2000 : Int) < 26 + 4 * (t : Int) + (n : Int) := by omega
      go_wp2_with fail
      go_ret
      exact ⟨rfl, H9.out.2.2⟩
    · have hN2 : ¬ (2000 : Int) < 26 + 4 * (t : Int) + (n : Int) := by omega
      have t9 := H9.out.1
      rw [show ([] ++ zero12 ++ deep12 ++ (tagsv zs ++ putn kind 2 ++ l) : List UInt8) = zero12 ++ deep12 ++ (tagsv zs ++ putn kind 2 ++ l) from rfl, etherv_deep (by omega) (by omega)] at t9
      have HT := Lib.hid t9
      clear t9
      go_wp2_with fail
      refine (help_at 11 20 _).mono ?_
      rintro e w10 ⟨rfl, b10⟩
      have H10 := Lib.hid (And.intro (HT.out.later b10 (Nat.le_refl _)) (H9.out.2.2.trans (b10.mono H9.out.2.2.size)))
      clear b10
      go_wp2_with fail
      refine (is_told3 H10.out.1 (HG.out.later H10.out.2 (Nat.le_refl _))).mono ?_
      rintro e w11 ⟨rfl, b11⟩
      have H11 := Lib.hid (H10.out.2.trans (b11.mono H10.out.2.size))
      clear b11
      go_wp2_with fail
      go_ret
      exact ⟨rfl, H11.out⟩
end Go.Proofs.YtheiljdilbobdaaDoor
