/-
  stockaderef01: need, Num, U16, U32, Part, Put: the document's own answers. Conditions: those of the slice; 2^47 bytes at most.
-/
import Derived.Test.YtpjacgnhpcegaaaDoorOctE
import Derived.Test.YtpjacgnhpcegaaaDoorPut
import Derived.Deep.RegionHeld3
import Derived.RegionTactic
import Derived.Deep.RegionWith
import Derived.IntWalk
namespace Go.Proofs.YtpjacgnhpcegaaaDoor
open Go.RowKit

set_option maxRecDepth 100000 in
theorem need_any (A : Option Addr) (n c : Nat) (at_ k : Int) (w : World) (hn : n ≤ 9223372036854775807) (h63 : at_ ≤ 9223372036854775807) (k63 : k ≤ 9223372036854775807) : Calls Tryd.prog 24 #[.slice A n c, .int .i64 at_, .int .i64 k] w fun e w' =>
    e = .returned (needOf n at_ k).v ∧ Below w.heap.size w w' := by
  unfold needOf Fl.v
  by_cases hneg : at_ < 0 ∨ k < 0
  · rw [if_pos hneg]
    rcases (show at_ < 0 ∨ 0 ≤ at_ ∧ k < 0 by omega) with h | ⟨h, h'⟩
    all_goals
      clear hneg
      go_enter Tryd.func24, Tryd.ntmps24
      go_wp2_with fail
      refine (help_bare 1 _).mono ?_
      rintro e w1 ⟨rfl, h1⟩
      obtain ⟨c0, c1, c2, f0, f1, f2, hb⟩ := boxed3 h1
      have HB := Lib.hid hb
      clear h1 hb
      go_wp2_with fail
      exact bodyPost_ret (v := .agg #[.int .i64 1, .int .i64 0, .bool false]) (by simp [results, Tryd.results24, go_sem, c0, c1, c2]) rfl ⟨rfl, ((HB.out.setCell (p := ⟨w.heap.size, 0, none⟩) (Nat.le_refl _) _).setCell (p := ⟨w.heap.size, 1, none⟩) (Nat.le_refl _) _).setCell (p := ⟨w.heap.size, 2, none⟩) (Nat.le_refl _) _⟩
  · rw [if_neg hneg]
    have h0 : 0 ≤ at_ := by omega
    have h1 : 0 ≤ k := by omega
    have hb0 : Below w.heap.size w (w.alloc (.cells #[.int .i64 0, .int .i64 0, .bool false] 32)) := (Below.refl _ _).alloc (Nat.le_refl _) _
    have HB0 := Lib.hid hb0
    clear hb0
    by_cases hs : 0 < k ∧ (n : Int) - at_ < k
    · rw [if_pos hs]
      obtain ⟨hk, hs⟩ := hs
      have d1 : decide (k > 0) = true := by simpa using hk
      rcases Int.lt_or_le n at_ with h | h
      all_goals
        go_enter Tryd.func24, Tryd.ntmps24
        go_wp2_with fail
        refine (help_at 3 at_ _).mono ?_
        rintro e w1 ⟨rfl, h1⟩
        obtain ⟨c0, c1, c2, f0, f1, f2, hb⟩ := boxed3 h1
        have HB := Lib.hid hb
        clear h1 hb
        go_wp2_with fail
        exact bodyPost_ret (v := .agg #[.int .i64 3, .int .i64 at_, .bool true]) (by simp [results, Tryd.results24, go_sem, c0, c1, c2]) rfl ⟨rfl, ((HB.out.setCell (p := ⟨w.heap.size, 0, none⟩) (Nat.le_refl _) _).setCell (p := ⟨w.heap.size, 1, none⟩) (Nat.le_refl _) _).setCell (p := ⟨w.heap.size, 2, none⟩) (Nat.le_refl _) _⟩
    · rw [if_neg hs]
      rcases (show k = 0 ∨ 0 < k ∧ at_ ≤ n ∧ k ≤ n - at_ by omega) with h | ⟨h, h', h''⟩
      · subst h
        clear hs
        go_enter Tryd.func24, Tryd.ntmps24
        go_wp2_with fail
        exact bodyPost_ret (v := .agg #[.int .i64 0, .int .i64 0, .bool false]) (by simp [results, Tryd.results24, go_sem]) rfl ⟨rfl, HB0.out⟩
      · clear hs
        go_enter Tryd.func24, Tryd.ntmps24
        go_wp2_with fail
        exact bodyPost_ret (v := .agg #[.int .i64 0, .int .i64 0, .bool false]) (by simp [results, Tryd.results24, go_sem]) rfl ⟨rfl, HB0.out⟩

/-- Num, where so many bytes are there. -/
theorem num_any {A : Option Addr} {n c : Nat} {l : List UInt8} {w : World} (hb : Bs w A n c l) (at_ k : Nat) (hk : at_ + k ≤ n) (h4 : k ≤ 7) : Calls Tryd.prog 25 #[.slice A n c, .int .i64 at_, .int .i64 k] w fun e w' =>
    e = .returned (.int .i64 (be ((l.drop at_).take k) : Nat)) ∧ w = w' := by
  have hm := Nat.le_trans hb.cap hb.max
  unfold maxLen at hm
  have HB := Lib.hid hb
  clear hb
  go_enter Tryd.func25, Tryd.ntmps25
  go_wp2
  go_loop [7, 8] (fun v i => ∃ j : Nat, j ≤ k ∧ i = .int .i64 j ∧ v = .int .i64 (be ((l.drop at_).take j) : Nat)) (fun _ i => k - (intOf i).toNat)
  case atStart => exact ⟨0, Nat.zero_le _, rfl, rfl⟩
  case round =>
    obtain ⟨j, hj, rfl, rfl⟩ := hrel
    by_cases hlt : j < k
    · obtain ⟨b, off, rfl, hc⟩ := HB.out.get (k := at_ + j) (by omega)
      have hlen : j < (l.drop at_).length := by rw [List.length_drop, HB.out.len]; omega
      have hx := be_take hlen
      rw [List.getElem_drop] at hx
      generalize l[at_ + j]'(by rw [HB.out.len]; omega) = x at hc hx
      have hlt7 := be_take_lt (l.drop at_) j
      have hp : (256 : Nat) ^ j ≤ 256 ^ 6 := Nat.pow_le_pow_right (by omega) (by omega)
      have hx2 := x.toNat_lt
      have HX := Lib.hid hx
      have hbd : be ((l.drop at_).take j) < 281474976710656 := by omega
      clear hx hlen hp hlt7
      generalize be ((l.drop at_).take j) = m at HX hbd ⊢
      have hor := i64_or_byte m x.toNat (by omega) hx2
      have HO := Lib.hid hor
      clear hor
      go_wp2
      refine ⟨⟨j + 1, hlt, by go_num, ?_⟩, by simp [intOf]; omega⟩
      rw [HO.out, HX.out]
      go_num
    · go_wp2
      go_ret
      obtain rfl : j = k := by omega
      exact ⟨rfl, rfl⟩

set_option maxRecDepth 100000 in
set_option maxHeartbeats 1000000 in
theorem ref_u16 {A : Option Addr} {n c : Nat} {l : List UInt8} {w : World} (hb : Bs w A n c l) (at_ : Int) (h63 : at_ ≤ 9223372036854775807) : Calls Tryd.prog 9 #[.slice A n c, .int .i64 at_] w fun e w' =>
    e = .returned (.tuple #[.int .i64 (numAt l n at_ 2 : Nat), (needOf n at_ 2).v]) ∧ Below w.heap.size w w' := by
  have hm := Nat.le_trans hb.cap hb.max
  unfold maxLen at hm
  have HN := Lib.hid fun w => need_any A n c at_ 2 w (by omega) h63 (by omega)
  unfold numAt
  rw [show ((2 : Nat) : Int) = 2 from rfl]
  by_cases hf : (needOf n at_ 2).code = 0
  · rw [if_pos hf]
    have h0 := needOf_there (by omega) hf
    obtain ⟨a', rfl⟩ := Int.eq_ofNat_of_zero_le h0.1
    have h2 : a' + 2 ≤ n := by omega
    rw [needOf_none hf] at HN ⊢
    rw [Int.toNat_natCast]
    have HB := Lib.hid hb
    unfold Fl.v at HN ⊢
    have hlt := be_take_lt (l.drop a') 2
    generalize hx : be ((l.drop a').take 2) = x at hlt ⊢
    have HX := Lib.hid hx
    have hlt' : x < 4294967296 := by omega
    clear hb h0 hf hx hlt
    go_enter Tryd.func9, Tryd.ntmps9
    go_wp2_with fail
    refine (HN.out _).mono ?_
    rintro e w1 ⟨rfl, h1⟩
    obtain ⟨W, hW, c0, c1, c2, f0, f1, f2, d0, d1, d2, hne, hb⟩ := boxed33 (a' := .int .i64 0) (b' := .int .i64 0) (c' := .bool false) (U := 32) h1
    have HW := Lib.hid hW
    have HWB := Lib.hid hb
    have hne' := Ne.symm hne
    have hk := num_any (HB.out.later (hb.drew) (Nat.le_refl _)) a' 2 h2 (by omega)
    rw [HX.out] at hk
    have HK := Lib.hid hk
    clear h1 hb hW hk
    go_wp2_with fail
    rw [HW.out]
    go_region_held3 (fun w' => w'.cell? ⟨w1.heap.size, 0, none⟩ = some (.int .i64 0) ∧ w'.cell? ⟨w1.heap.size, 1, none⟩ = some (.int .i64 0) ∧ w'.cell? ⟨w1.heap.size, 2, none⟩ = some (.bool false)) (go_keep) (first | (go_at_call 25; refine HK.out.mono ?_; rintro e w' ⟨rfl, rfl⟩))
    go_wp2
    exact bodyPost_ret (v := .tuple #[.int .i64 x, .agg #[.int .i64 0, .int .i64 0, .bool false]]) (by simp [results, Tryd.results9, go_sem, c0, c1, c2]) rfl ⟨rfl, (((HWB.out.setCell (p := ⟨w.heap.size, 0, none⟩) (Nat.le_refl _) _).setCell (p := ⟨w.heap.size, 1, none⟩) (Nat.le_refl _) _).setCell (p := ⟨w.heap.size, 2, none⟩) (Nat.le_refl _) _).drew⟩
  · rw [if_neg hf]
    generalize needOf n at_ 2 = f at HN hf ⊢
    obtain ⟨fc, fa, fp_⟩ := f
    unfold Fl.v at HN ⊢
    simp only at hf HN ⊢
    have hne0 : (fc != 0) = true := by simp [hf]
    clear hb hf
    go_enter Tryd.func9, Tryd.ntmps9
    go_wp2_with fail
    refine (HN.out _).mono ?_
    rintro e w1 ⟨rfl, h1⟩
    obtain ⟨W, hW, c0, c1, c2, f0, f1, f2, d0, d1, d2, hne, hb⟩ := boxed33 (a' := .int .i64 fc) (b' := .int .i64 fa) (c' := .bool fp_) (U := 32) h1
    have HW := Lib.hid hW
    have HWB := Lib.hid hb
    have hne' := Ne.symm hne
    clear h1 hb hW
    go_wp2_with fail
    rw [HW.out]
    go_region_held3 (fun w' => w'.cell? ⟨w1.heap.size, 0, none⟩ = some (.int .i64 fc) ∧ w'.cell? ⟨w1.heap.size, 1, none⟩ = some (.int .i64 fa) ∧ w'.cell? ⟨w1.heap.size, 2, none⟩ = some (.bool fp_)) (go_keep) (fail)
    go_wp2
    exact bodyPost_ret (v := .tuple #[.int .i64 (0 : Nat), .agg #[.int .i64 fc, .int .i64 fa, .bool fp_]]) (by simp [results, Tryd.results9, go_sem, c0, c1, c2]) rfl ⟨rfl, (((HWB.out.setCell (p := ⟨w.heap.size, 0, none⟩) (Nat.le_refl _) _).setCell (p := ⟨w.heap.size, 1, none⟩) (Nat.le_refl _) _).setCell (p := ⟨w.heap.size, 2, none⟩) (Nat.le_refl _) _).drew⟩
set_option maxRecDepth 100000 in
set_option maxHeartbeats 1000000 in
theorem ref_u32 {A : Option Addr} {n c : Nat} {l : List UInt8} {w : World} (hb : Bs w A n c l) (at_ : Int) (h63 : at_ ≤ 9223372036854775807) : Calls Tryd.prog 11 #[.slice A n c, .int .i64 at_] w fun e w' =>
    e = .returned (.tuple #[.int .u32 (numAt l n at_ 4 : Nat), (needOf n at_ 4).v]) ∧ Below w.heap.size w w' := by
  have hm := Nat.le_trans hb.cap hb.max
  unfold maxLen at hm
  have HN := Lib.hid fun w => need_any A n c at_ 4 w (by omega) h63 (by omega)
  unfold numAt
  rw [show ((4 : Nat) : Int) = 4 from rfl]
  by_cases hf : (needOf n at_ 4).code = 0
  · rw [if_pos hf]
    have h0 := needOf_there (by omega) hf
    obtain ⟨a', rfl⟩ := Int.eq_ofNat_of_zero_le h0.1
    have h2 : a' + 4 ≤ n := by omega
    rw [needOf_none hf] at HN ⊢
    rw [Int.toNat_natCast]
    have HB := Lib.hid hb
    unfold Fl.v at HN ⊢
    have hlt := be_take_lt (l.drop a') 4
    generalize hx : be ((l.drop a').take 4) = x at hlt ⊢
    have HX := Lib.hid hx
    have hlt' : x < 4294967296 := by omega
    clear hb h0 hf hx hlt
    go_enter Tryd.func11, Tryd.ntmps11
    go_wp2_with fail
    refine (HN.out _).mono ?_
    rintro e w1 ⟨rfl, h1⟩
    obtain ⟨W, hW, c0, c1, c2, f0, f1, f2, d0, d1, d2, hne, hb⟩ := boxed33 (a' := .int .i64 0) (b' := .int .i64 0) (c' := .bool false) (U := 32) h1
    have HW := Lib.hid hW
    have HWB := Lib.hid hb
    have hne' := Ne.symm hne
    have hk := num_any (HB.out.later (hb.drew) (Nat.le_refl _)) a' 4 h2 (by omega)
    rw [HX.out] at hk
    have HK := Lib.hid hk
    clear h1 hb hW hk
    go_wp2_with fail
    rw [HW.out]
    go_region_held3 (fun w' => w'.cell? ⟨w1.heap.size, 0, none⟩ = some (.int .i64 0) ∧ w'.cell? ⟨w1.heap.size, 1, none⟩ = some (.int .i64 0) ∧ w'.cell? ⟨w1.heap.size, 2, none⟩ = some (.bool false)) (go_keep) (first | (go_at_call 25; refine HK.out.mono ?_; rintro e w' ⟨rfl, rfl⟩))
    go_wp2
    exact bodyPost_ret (v := .tuple #[.int .u32 x, .agg #[.int .i64 0, .int .i64 0, .bool false]]) (by simp [results, Tryd.results11, go_sem, c0, c1, c2] <;> (rw [IntKind.wrap_u32]; omega)) rfl ⟨rfl, (((HWB.out.setCell (p := ⟨w.heap.size, 0, none⟩) (Nat.le_refl _) _).setCell (p := ⟨w.heap.size, 1, none⟩) (Nat.le_refl _) _).setCell (p := ⟨w.heap.size, 2, none⟩) (Nat.le_refl _) _).drew⟩
  · rw [if_neg hf]
    generalize needOf n at_ 4 = f at HN hf ⊢
    obtain ⟨fc, fa, fp_⟩ := f
    unfold Fl.v at HN ⊢
    simp only at hf HN ⊢
    have hne0 : (fc != 0) = true := by simp [hf]
    clear hb hf
    go_enter Tryd.func11, Tryd.ntmps11
    go_wp2_with fail
    refine (HN.out _).mono ?_
    rintro e w1 ⟨rfl, h1⟩
    obtain ⟨W, hW, c0, c1, c2, f0, f1, f2, d0, d1, d2, hne, hb⟩ := boxed33 (a' := .int .i64 fc) (b' := .int .i64 fa) (c' := .bool fp_) (U := 32) h1
    have HW := Lib.hid hW
    have HWB := Lib.hid hb
    have hne' := Ne.symm hne
    clear h1 hb hW
    go_wp2_with fail
    rw [HW.out]
    go_region_held3 (fun w' => w'.cell? ⟨w1.heap.size, 0, none⟩ = some (.int .i64 fc) ∧ w'.cell? ⟨w1.heap.size, 1, none⟩ = some (.int .i64 fa) ∧ w'.cell? ⟨w1.heap.size, 2, none⟩ = some (.bool fp_)) (go_keep) (fail)
    go_wp2
    exact bodyPost_ret (v := .tuple #[.int .u32 (0 : Nat), .agg #[.int .i64 fc, .int .i64 fa, .bool fp_]]) (by simp [results, Tryd.results11, go_sem, c0, c1, c2]) rfl ⟨rfl, (((HWB.out.setCell (p := ⟨w.heap.size, 0, none⟩) (Nat.le_refl _) _).setCell (p := ⟨w.heap.size, 1, none⟩) (Nat.le_refl _) _).setCell (p := ⟨w.heap.size, 2, none⟩) (Nat.le_refl _) _).drew⟩
theorem putn_step (v : Int) (n j : Nat) (hj : j < n) : putn v n = (putn v n).take (n - 1 - j) ++ (UInt8.ofNat ((v / 2 ^ (8 * j)) % 256).toNat :: putn v j) := by
  induction n with
  | zero => omega
  | succ n ih =>
    by_cases h : j = n
    · subst h
      simp [putn]
    · have := ih (by omega)
      rw [show n + 1 - 1 - j = (n - 1 - j) + 1 by omega]
      simp only [putn, List.take_succ_cons, List.cons_append]
      rw [← this]

set_option maxRecDepth 100000 in
set_option maxHeartbeats 1000000 in
theorem ref_put {A : Option Addr} {n c : Nat} {l : List UInt8} {w : World} (hb : Bs w A n c l) (v : Int) (k : Nat) (hk : k ≤ 4) (h47 : n ≤ 140737488350000) : Calls Tryd.prog 17 #[.slice A n c, .int .i64 v, .int .i64 k] w fun e w' =>
    ∃ v', e = .returned v' ∧ w'.ownsRow w.heap.size 5 1 v' (n + k) (bv (l ++ putn v k)) ∧ Below w.heap.size w w' := by
  have HB := Lib.hid hb
  clear hb
  go_enter Tryd.func17, Tryd.ntmps17
  go_wp2_with (at_builtin; refine wpList_append_bs rfl (.const (.slice none 0 0)) (.tmp 9) 22 rfl w.heap.size 5 info5 Tryd.underlying22 _ 0 [] rfl (World.ownsRow_nil _ _ _ _) A n c l rfl HB.out (by omega) (Nat.le_refl _) ?_; intro v1 w1 o1 g1 n1 a1)
  have b1 : Below w.heap.size w w1 := (Below.refl _ w).grown g1 (Nat.le_refl _) (fun q hq => by cases hq)
  have H1 := Lib.hid (And.intro o1 b1)
  clear o1 g1 n1 a1 b1
  go_wp2_with fail
  go_loopw [7, 8] (fun s i wr => ∃ j : Nat, j ≤ k ∧ i = .int .i64 ((j : Int) - 1) ∧ wr.ownsRow w.heap.size 5 1 s (n + (k - j)) (bv (l ++ (putn v k).take (k - j))) ∧ Below w.heap.size w wr) (fun _ i _ => (intOf i + 1).toNat)
  case atStart => exact ⟨k, Nat.le_refl _, rfl, by simpa using H1.out.1, H1.out.2⟩
  case round =>
    obtain ⟨j, hj, rfl, ho, hb⟩ := hrel
    rcases Nat.eq_zero_or_pos j with h0 | h0
    · subst h0
      rw [Nat.sub_zero, List.take_of_length_le (by rw [putn_length]; exact Nat.le_refl _)] at ho
      have H2 := Lib.hid (And.intro ho hb)
      clear ho hb
      go_wp2_with fail
      go_ret
      exact ⟨_, rfl, H2.out⟩
    · obtain ⟨i, rfl⟩ : ∃ i, j = i + 1 := ⟨j - 1, by omega⟩
      have hst := putn_step v k i (by omega)
      have htk : (putn v k).take (k - i) = (putn v k).take (k - (i + 1)) ++ [UInt8.ofNat ((v / 2 ^ (8 * i)) % 256).toNat] := by
        have hl : ((putn v k).take (k - 1 - i)).length = k - 1 - i := by rw [List.length_take, putn_length]; omega
        conv => lhs; rw [hst]
        rw [show k - (i + 1) = k - 1 - i by omega, List.take_append, List.take_of_length_le (by rw [hl]; omega), hl, show k - i - (k - 1 - i) = 1 by omega]
        rfl
      have hsz := hb.size
      have HT := Lib.hid (And.intro htk (And.intro ho hb))
      clear hst htk ho hb
      rw [show (((i + 1 : Nat) : Int) - 1) = (i : Int) by omega]
      rcases (show i = 0 ∨ i = 1 ∨ i = 2 ∨ i = 3 by omega) with rfl | rfl | rfl | rfl
      all_goals
        simp only [show (2 : Int) ^ (8 * 0) = 1 from rfl, show (2 : Int) ^ (8 * 1) = 256 from rfl, show (2 : Int) ^ (8 * 2) = 65536 from rfl, show (2 : Int) ^ (8 * 3) = 16777216 from rfl, Int.ediv_one] at HT
        go_wp2_with (at_builtin; refine wpList_append_bs rfl (.tmp 17) (.tmp 24) 22 rfl w.heap.size 5 info5 Tryd.underlying22 _ _ _ rfl (HT.out.2.1.alloc _) _ 1 1 _ rfl (by exact Bs.byte _ _ _) (by omega) (by simp; omega) ?_; intro v2 w2 o2 g2 n2 a2)
        have b2 : Below w.heap.size w w2 := (HT.out.2.2.alloc hsz _).grown g2 (by simp; omega) (fun q hq => (HT.out.2.1.lt q hq).1)
        have H2 := Lib.hid (And.intro o2 b2)
        clear o2 g2 n2 a2 b2
        go_wp2_with fail
        first
          | refine ⟨⟨0, by omega, rfl, ?_, H2.out.2⟩, by simp [intOf]⟩
          | refine ⟨⟨1, by omega, rfl, ?_, H2.out.2⟩, by simp [intOf]⟩
          | refine ⟨⟨2, by omega, rfl, ?_, H2.out.2⟩, by simp [intOf]⟩
          | refine ⟨⟨3, by omega, rfl, ?_, H2.out.2⟩, by simp [intOf]⟩
        rw [HT.out.1, ← List.append_assoc]
        refine owns_n ?_ H2.out.1
        omega
set_option maxRecDepth 100000 in
set_option maxHeartbeats 1000000 in
theorem ref_part {A : Option Addr} {n c : Nat} {l : List UInt8} {w : World} (hb : Bs w A n c l) (at_ k : Int) (h63 : at_ ≤ 9223372036854775807) (k63 : k ≤ 9223372036854775807) (h47 : n ≤ 140737488350000) : Calls Tryd.prog 13 #[.slice A n c, .int .i64 at_, .int .i64 k] w fun e w' =>
    ∃ A' n' c', e = .returned (.tuple #[.slice A' n' c', (needOf n at_ k).v]) ∧ Bs w' A' n' c' (partAt l n at_ k) ∧ Below w.heap.size w w' := by
  have hm := Nat.le_trans hb.cap hb.max
  unfold maxLen at hm
  have HN := Lib.hid fun w => need_any A n c at_ k w (by omega) h63 k63
  unfold partAt
  by_cases hf : (needOf n at_ k).code = 0
  · rw [if_pos hf]
    by_cases hk : 0 < k
    · have h0 := needOf_there hk hf
      obtain ⟨a', rfl⟩ := Int.eq_ofNat_of_zero_le h0.1
      obtain ⟨k', rfl⟩ := Int.eq_ofNat_of_zero_le (show 0 ≤ k by omega)
      have h2 : a' + k' ≤ n := by omega
      have hk1 : 0 < k' := by omega
      have hkb : ((k' : Int) == 0) = false := by simp; omega
      have hcap := hb.cap
      have hcut := hb.cut (i := a') (k := k') h2 (A' := A.map (fun a => a.add a')) (fun _ => rfl) (by cases A <;> simp)
      obtain ⟨b, off, rfl, _⟩ := hb.here (by omega)
      have hmax := hb.max
      unfold maxLen at hmax
      rw [needOf_none hf] at HN ⊢
      rw [Int.toNat_natCast, Int.toNat_natCast]
      have hcut' : Bs w (some ⟨b, off + a', none⟩) k' (c - a') ((l.drop a').take k') := by simpa [add_plain] using hcut
      have HB := Lib.hid hcut'
      unfold Fl.v at HN ⊢
      clear hb h0 hf hcut hcut'
      go_enter Tryd.func13, Tryd.ntmps13
      go_wp2_with fail
      refine (HN.out _).mono ?_
      rintro e w1 ⟨rfl, h1⟩
      obtain ⟨W, hW, c0, c1, c2, f0, f1, f2, d0, d1, d2, hne, hb⟩ := boxed33 (a' := .int .i64 0) (b' := .int .i64 0) (c' := .bool false) (U := 32) h1
      have HW := Lib.hid hW
      have HWB := Lib.hid hb
      have hne' := Ne.symm hne
      have HL := Lib.hid (And.intro (lt_of_cell c0) (lt_of_cell d0))
      clear h1 hb hW
      go_wp2_with fail
      rw [HW.out]
      have s0 : (0 : Int) ≤ (a' : Int) := by omega
      have s1 : (a' : Int) ≤ (a' : Int) + (k' : Int) := by omega
      have s2 : (a' : Int) + (k' : Int) ≤ (c : Int) := by omega
      have s3 : ¬ c = a' := by omega
      have s4 : (0 : Int) ≤ (a' : Int) + (k' : Int) := by omega
      have s5 : a' + k' - a' = k' := by omega
      have s6 : ((a' : Int) + (k' : Int)).toNat = a' + k' := by omega
      have s7 : IntKind.i64.wrap ((a' : Int) + (k' : Int)) = (a' : Int) + (k' : Int) := IntWalk.i64_in _ (by omega)
      go_region_held3 (fun w' => w'.cell? ⟨w1.heap.size, 0, none⟩ = some (.int .i64 0) ∧ w'.cell? ⟨w1.heap.size, 1, none⟩ = some (.int .i64 0) ∧ w'.cell? ⟨w1.heap.size, 2, none⟩ = some (.bool false))
        (first
          | go_keep
          | (go_split_ands
             refine ⟨?_, ?_, ?_⟩ <;> (rw [HB2.out.2.1.cell (by exact HL.out.2)]; assumption)))
        ((refine step_append_nil (by rfl) (.const (.slice none 0 0)) (.tmp 26) 22 (by rfl) 5 info5 Tryd.underlying22 (by rfl) b (off + a') k' (c - a') _ (by rfl) (HB.out.later HWB.out.drew (Nat.le_refl _)) hk1 (by omega) ?_
          intro g cap w2 hb2 hg2 hgg
          have e0 : w2.cell? ⟨w.heap.size, 0, none⟩ = some (.int .i64 0) := (hg2.cell (p := ⟨w.heap.size, 0, none⟩) HL.out.1).trans c0
          have e1 : w2.cell? ⟨w.heap.size, 1, none⟩ = some (.int .i64 0) := (hg2.cell (p := ⟨w.heap.size, 1, none⟩) HL.out.1).trans c1
          have e2 : w2.cell? ⟨w.heap.size, 2, none⟩ = some (.bool false) := (hg2.cell (p := ⟨w.heap.size, 2, none⟩) HL.out.1).trans c2
          have q0 : w2.frozen? ⟨w.heap.size, 0, none⟩ = false := (hg2.frozen (p := ⟨w.heap.size, 0, none⟩) HL.out.1).trans f0
          have q1 : w2.frozen? ⟨w.heap.size, 1, none⟩ = false := (hg2.frozen (p := ⟨w.heap.size, 1, none⟩) HL.out.1).trans f1
          have q2 : w2.frozen? ⟨w.heap.size, 2, none⟩ = false := (hg2.frozen (p := ⟨w.heap.size, 2, none⟩) HL.out.1).trans f2
          have HB2 := Lib.hid (And.intro hb2 (And.intro hg2 hgg))
          clear hb2 hg2 hgg))
      go_wp2
      have hgne : w.heap.size ≠ g := by have := HL.out.1; have := HB2.out.2.2; simp at this; omega
      exact bodyPost_ret (v := .tuple #[.slice (some ⟨g, 0, none⟩) k' cap, .agg #[.int .i64 0, .int .i64 0, .bool false]]) (by simp [results, Tryd.results13, go_sem, e0, e1, e2]) rfl
        ⟨_, _, _, rfl, ((HB2.out.1.far (p := ⟨w.heap.size, 0, none⟩) hgne _).far (p := ⟨w.heap.size, 1, none⟩) hgne _).far (p := ⟨w.heap.size, 2, none⟩) hgne _,
          ((((HWB.out.drew).trans (HB2.out.2.1.mono HWB.out.size)).setCell (p := ⟨w.heap.size, 0, none⟩) (Nat.le_refl _) _).setCell (p := ⟨w.heap.size, 1, none⟩) (Nat.le_refl _) _).setCell (p := ⟨w.heap.size, 2, none⟩) (Nat.le_refl _) _⟩
    · have hk0 : k = 0 := by
        have hne : ¬ k < 0 := fun h => by
          unfold needOf at hf
          rw [if_pos (Or.inr h)] at hf
          exact absurd hf (by simp)
        omega
      subst hk0
      rw [needOf_none hf] at HN ⊢
      rw [show List.take (0 : Int).toNat (l.drop at_.toNat) = [] from List.take_zero]
      unfold Fl.v at HN ⊢
      clear hb hf hk
      go_enter Tryd.func13, Tryd.ntmps13
      go_wp2_with fail
      refine (HN.out _).mono ?_
      rintro e w1 ⟨rfl, h1⟩
      obtain ⟨W, hW, c0, c1, c2, f0, f1, f2, d0, d1, d2, hne, hb⟩ := boxed33 (a' := .int .i64 0) (b' := .int .i64 0) (c' := .bool false) (U := 32) h1
      have HW := Lib.hid hW
      have HWB := Lib.hid hb
      have hne' := Ne.symm hne
      clear h1 hb hW
      go_wp2_with fail
      rw [HW.out]
      go_region_held3 (fun w' => w'.cell? ⟨w1.heap.size, 0, none⟩ = some (.int .i64 0) ∧ w'.cell? ⟨w1.heap.size, 1, none⟩ = some (.int .i64 0) ∧ w'.cell? ⟨w1.heap.size, 2, none⟩ = some (.bool false)) (go_keep) (fail)
      go_wp2
      exact bodyPost_ret (v := .tuple #[.slice none 0 0, .agg #[.int .i64 0, .int .i64 0, .bool false]]) (by simp [results, Tryd.results13, go_sem, c0, c1, c2]) rfl ⟨_, _, _, rfl, Bs.nil _, (((HWB.out.setCell (p := ⟨w.heap.size, 0, none⟩) (Nat.le_refl _) _).setCell (p := ⟨w.heap.size, 1, none⟩) (Nat.le_refl _) _).setCell (p := ⟨w.heap.size, 2, none⟩) (Nat.le_refl _) _).drew⟩
  · rw [if_neg hf]
    generalize needOf n at_ k = f at HN hf ⊢
    obtain ⟨fc, fa, fp_⟩ := f
    unfold Fl.v at HN ⊢
    simp only at hf HN ⊢
    have hne0 : (fc != 0) = true := by simp [hf]
    clear hb hf
    go_enter Tryd.func13, Tryd.ntmps13
    go_wp2_with fail
    refine (HN.out _).mono ?_
    rintro e w1 ⟨rfl, h1⟩
    obtain ⟨W, hW, c0, c1, c2, f0, f1, f2, d0, d1, d2, hne, hb⟩ := boxed33 (a' := .int .i64 fc) (b' := .int .i64 fa) (c' := .bool fp_) (U := 32) h1
    have HW := Lib.hid hW
    have HWB := Lib.hid hb
    have hne' := Ne.symm hne
    clear h1 hb hW
    go_wp2_with fail
    rw [HW.out]
    go_region_held3 (fun w' => w'.cell? ⟨w1.heap.size, 0, none⟩ = some (.int .i64 fc) ∧ w'.cell? ⟨w1.heap.size, 1, none⟩ = some (.int .i64 fa) ∧ w'.cell? ⟨w1.heap.size, 2, none⟩ = some (.bool fp_)) (go_keep) (fail)
    go_wp2
    exact bodyPost_ret (v := .tuple #[.slice none 0 0, .agg #[.int .i64 fc, .int .i64 fa, .bool fp_]]) (by simp [results, Tryd.results13, go_sem, c0, c1, c2]) rfl ⟨_, _, _, rfl, Bs.nil _, (((HWB.out.setCell (p := ⟨w.heap.size, 0, none⟩) (Nat.le_refl _) _).setCell (p := ⟨w.heap.size, 1, none⟩) (Nat.le_refl _) _).setCell (p := ⟨w.heap.size, 2, none⟩) (Nat.le_refl _) _).drew⟩
end Go.Proofs.YtpjacgnhpcegaaaDoor
