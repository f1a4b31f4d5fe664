/-
  stockaderef01: need, Num, U16, U32, Part, Put: the document's own answers. Conditions: those of the slice; 2^47 bytes at most.
-/
import Derived.Test.YtbikifaadpijnaaGreatDoorZ23
import Derived.Test.YtbikifaadpijnaaGreatDoorZ19
import Derived.Deep.RegionHeld3
import Derived.RegionTactic
import Derived.Deep.RegionWith
import Derived.IntWalk
namespace Go.Proofs.YtbikifaadpijnaaGreatDoor
open Go.RowKit

set_option maxRecDepth 100000 in
theorem need_any (A : Option Addr) (n c : Nat) (at_ k : Int) (w : World) (hn : n ≤ 9223372036854775807) (h63 : at_ ≤ 9223372036854775807) (k63 : k ≤ 9223372036854775807) : Calls Tryz.prog 89 #[.slice A n c, .int .i64 at_, .int .i64 k] w fun e w' =>
    e = .returned (needOf n at_ k).v ∧ Below w.heap.size w w' := by
  unfold needOf Fl.v
  by_cases hneg : at_ < 0 ∨ k < 0
  · rw [if_pos hneg]
    rcases (show at_ < 0 ∨ 0 ≤ at_ ∧ k < 0 by omega) with h | ⟨h, h'⟩
    all_goals
      clear hneg
      go_enter Tryz.func89, Tryz.ntmps89
      go_wp2_with fail
      refine (help_bare 1 _).mono ?_
      rintro e w1 ⟨rfl, h1⟩
      obtain ⟨c0, c1, c2, f0, f1, f2, hb⟩ := boxed3 h1
      have HB := Lib.hid hb
      clear h1 hb
      go_wp2_with fail
      exact bodyPost_ret (v := .agg #[.int .i64 1, .int .i64 0, .bool false]) (by simp [results, Tryz.results89, go_sem, c0, c1, c2]) rfl ⟨rfl, ((HB.out.setCell (p := ⟨w.heap.size, 0, none⟩) (Nat.le_refl _) _).setCell (p := ⟨w.heap.size, 1, none⟩) (Nat.le_refl _) _).setCell (p := ⟨w.heap.size, 2, none⟩) (Nat.le_refl _) _⟩
  · rw [if_neg hneg]
    have h0 : 0 ≤ at_ := by omega
    have h1 : 0 ≤ k := by omega
    have hb0 : Below w.heap.size w (w.alloc (.cells #[.int .i64 0, .int .i64 0, .bool false] 36)) := (Below.refl _ _).alloc (Nat.le_refl _) _
    have HB0 := Lib.hid hb0
    clear hb0
    by_cases hs : 0 < k ∧ (n : Int) - at_ < k
    · rw [if_pos hs]
      obtain ⟨hk, hs⟩ := hs
      have d1 : decide (k > 0) = true := by simpa using hk
      rcases Int.lt_or_le n at_ with h | h
      all_goals
        go_enter Tryz.func89, Tryz.ntmps89
        go_wp2_with fail
        refine (help_at 3 at_ _).mono ?_
        rintro e w1 ⟨rfl, h1⟩
        obtain ⟨c0, c1, c2, f0, f1, f2, hb⟩ := boxed3 h1
        have HB := Lib.hid hb
        clear h1 hb
        go_wp2_with fail
        exact bodyPost_ret (v := .agg #[.int .i64 3, .int .i64 at_, .bool true]) (by simp [results, Tryz.results89, go_sem, c0, c1, c2]) rfl ⟨rfl, ((HB.out.setCell (p := ⟨w.heap.size, 0, none⟩) (Nat.le_refl _) _).setCell (p := ⟨w.heap.size, 1, none⟩) (Nat.le_refl _) _).setCell (p := ⟨w.heap.size, 2, none⟩) (Nat.le_refl _) _⟩
    · rw [if_neg hs]
      rcases (show k = 0 ∨ 0 < k ∧ at_ ≤ n ∧ k ≤ n - at_ by omega) with h | ⟨h, h', h''⟩
      · subst h
        clear hs
        go_enter Tryz.func89, Tryz.ntmps89
        go_wp2_with fail
        exact bodyPost_ret (v := .agg #[.int .i64 0, .int .i64 0, .bool false]) (by simp [results, Tryz.results89, go_sem]) rfl ⟨rfl, HB0.out⟩
      · clear hs
        go_enter Tryz.func89, Tryz.ntmps89
        go_wp2_with fail
        exact bodyPost_ret (v := .agg #[.int .i64 0, .int .i64 0, .bool false]) (by simp [results, Tryz.results89, go_sem]) rfl ⟨rfl, HB0.out⟩
/-- Num, where so many bytes are there. -/
theorem num_any {A : Option Addr} {n c : Nat} {l : List UInt8} {w : World} (hb : Bs w A n c l) (at_ k : Nat) (hk : at_ + k ≤ n) (h4 : k ≤ 7) : Calls Tryz.prog 23 #[.slice A n c, .int .i64 at_, .int .i64 k] w fun e w' =>
    e = .returned (.int .i64 (be ((l.drop at_).take k) : Nat)) ∧ w = w' := by
  have hm := Nat.le_trans hb.cap hb.max
  unfold maxLen at hm
  have HB := Lib.hid hb
  clear hb
  go_enter Tryz.func23, Tryz.ntmps23
  go_wp2
  go_loop [7, 8] (fun v i => ∃ j : Nat, j ≤ k ∧ i = .int .i64 j ∧ v = .int .i64 (be ((l.drop at_).take j) : Nat)) (fun _ i => k - (intOf i).toNat)
  case atStart => exact ⟨0, Nat.zero_le _, rfl, rfl⟩
  case round =>
    obtain ⟨j, hj, rfl, rfl⟩ := hrel
    by_cases hlt : j < k
    · obtain ⟨b, off, rfl, hc⟩ := HB.out.get (k := at_ + j) (by omega)
      have hlen : j < (l.drop at_).length := by rw [List.length_drop, HB.out.len]; omega
      have hx := be_take hlen
      rw [List.getElem_drop] at hx
      generalize l[at_ + j]'(by rw [HB.out.len]; omega) = x at hc hx
      have hlt7 := be_take_lt (l.drop at_) j
      have hp : (256 : Nat) ^ j ≤ 256 ^ 6 := Nat.pow_le_pow_right (by omega) (by omega)
      have hx2 := x.toNat_lt
      have HX := Lib.hid hx
      have hbd : be ((l.drop at_).take j) < 281474976710656 := by omega
      clear hx hlen hp hlt7
      generalize be ((l.drop at_).take j) = m at HX hbd ⊢
      have hor := i64_or_byte m x.toNat (by omega) hx2
      have HO := Lib.hid hor
      clear hor
      go_wp2
      refine ⟨⟨j + 1, hlt, by go_num, ?_⟩, by simp [intOf]; omega⟩
      rw [HO.out, HX.out]
      go_num
    · go_wp2
      go_ret
      obtain rfl : j = k := by omega
      exact ⟨rfl, rfl⟩

set_option maxRecDepth 100000 in
set_option maxHeartbeats 1000000 in
theorem ref_u16 {A : Option Addr} {n c : Nat} {l : List UInt8} {w : World} (hb : Bs w A n c l) (at_ : Int) (h63 : at_ ≤ 9223372036854775807) : Calls Tryz.prog 55 #[.slice A n c, .int .i64 at_] w fun e w' =>
    e = .returned (.tuple #[.int .i64 (numAt l n at_ 2 : Nat), (needOf n at_ 2).v]) ∧ Below w.heap.size w w' := by
  have hm := Nat.le_trans hb.cap hb.max
  unfold maxLen at hm
  have HN := Lib.hid fun w => need_any A n c at_ 2 w (by omega) h63 (by omega)
  unfold numAt
  rw [show ((2 : Nat) : Int) = 2 from rfl]
  by_cases hf : (needOf n at_ 2).code = 0
  · rw [if_pos hf]
    have h0 := needOf_there (by omega) hf
    obtain ⟨a', rfl⟩ := Int.eq_ofNat_of_zero_le h0.1
    have h2 : a' + 2 ≤ n := by omega
    rw [needOf_none hf] at HN ⊢
    rw [Int.toNat_natCast]
    have HB := Lib.hid hb
    unfold Fl.v at HN ⊢
    have hlt := be_take_lt (l.drop a') 2
    generalize hx : be ((l.drop a').take 2) = x at hlt ⊢
    have HX := Lib.hid hx
    have hlt' : x < 4294967296 := by omega
    clear hb h0 hf hx hlt
    go_enter Tryz.func55, Tryz.ntmps55
    go_wp2_with fail
    refine (HN.out _).mono ?_
    rintro e w1 ⟨rfl, h1⟩
    obtain ⟨W, hW, c0, c1, c2, f0, f1, f2, d0, d1, d2, hne, hb⟩ := boxed33 (a' := .int .i64 0) (b' := .int .i64 0) (c' := .bool false) (U := 36) h1
    have HW := Lib.hid hW
    have HWB := Lib.hid hb
    have hne' := Ne.symm hne
    have hk := num_any (HB.out.later (hb.drew) (Nat.le_refl _)) a' 2 h2 (by omega)
    rw [HX.out] at hk
    have HK := Lib.hid hk
    clear h1 hb hW hk
    go_wp2_with fail
    rw [HW.out]
    go_region_held3 (fun w' => w'.cell? ⟨w1.heap.size, 0, none⟩ = some (.int .i64 0) ∧ w'.cell? ⟨w1.heap.size, 1, none⟩ = some (.int .i64 0) ∧ w'.cell? ⟨w1.heap.size, 2, none⟩ = some (.bool false)) (go_keep) (first | (go_at_call 23; refine HK.out.mono ?_; rintro e w' ⟨rfl, rfl⟩))
    go_wp2
    exact bodyPost_ret (v := .tuple #[.int .i64 x, .agg #[.int .i64 0, .int .i64 0, .bool false]]) (by simp [results, Tryz.results55, go_sem, c0, c1, c2]) rfl ⟨rfl, (((HWB.out.setCell (p := ⟨w.heap.size, 0, none⟩) (Nat.le_refl _) _).setCell (p := ⟨w.heap.size, 1, none⟩) (Nat.le_refl _) _).setCell (p := ⟨w.heap.size, 2, none⟩) (Nat.le_refl _) _).drew⟩
  · rw [if_neg hf]
    generalize needOf n at_ 2 = f at HN hf ⊢
    obtain ⟨fc, fa, fp_⟩ := f
    unfold Fl.v at HN ⊢
    simp only at hf HN ⊢
    have hne0 : (fc != 0) = true := by simp [hf]
    clear hb hf
    go_enter Tryz.func55, Tryz.ntmps55
    go_wp2_with fail
    refine (HN.out _).mono ?_
    rintro e w1 ⟨rfl, h1⟩
    obtain ⟨W, hW, c0, c1, c2, f0, f1, f2, d0, d1, d2, hne, hb⟩ := boxed33 (a' := .int .i64 fc) (b' := .int .i64 fa) (c' := .bool fp_) (U := 36) h1
    have HW := Lib.hid hW
    have HWB := Lib.hid hb
    have hne' := Ne.symm hne
    clear h1 hb hW
    go_wp2_with fail
    rw [HW.out]
    go_region_held3 (fun w' => w'.cell? ⟨w1.heap.size, 0, none⟩ = some (.int .i64 fc) ∧ w'.cell? ⟨w1.heap.size, 1, none⟩ = some (.int .i64 fa) ∧ w'.cell? ⟨w1.heap.size, 2, none⟩ = some (.bool fp_)) (go_keep) (fail)
    go_wp2
    exact bodyPost_ret (v := .tuple #[.int .i64 (0 : Nat), .agg #[.int .i64 fc, .int .i64 fa, .bool fp_]]) (by simp [results, Tryz.results55, go_sem, c0, c1, c2]) rfl ⟨rfl, (((HWB.out.setCell (p := ⟨w.heap.size, 0, none⟩) (Nat.le_refl _) _).setCell (p := ⟨w.heap.size, 1, none⟩) (Nat.le_refl _) _).setCell (p := ⟨w.heap.size, 2, none⟩) (Nat.le_refl _) _).drew⟩
set_option maxRecDepth 100000 in
set_option maxHeartbeats 1000000 in
theorem ref_u32 {A : Option Addr} {n c : Nat} {l : List UInt8} {w : World} (hb : Bs w A n c l) (at_ : Int) (h63 : at_ ≤ 9223372036854775807) : Calls Tryz.prog 90 #[.slice A n c, .int .i64 at_] w fun e w' =>
    e = .returned (.tuple #[.int .u32 (numAt l n at_ 4 : Nat), (needOf n at_ 4).v]) ∧ Below w.heap.size w w' := by
  have hm := Nat.le_trans hb.cap hb.max
  unfold maxLen at hm
  have HN := Lib.hid fun w => need_any A n c at_ 4 w (by omega) h63 (by omega)
  unfold numAt
  rw [show ((4 : Nat) : Int) = 4 from rfl]
  by_cases hf : (needOf n at_ 4).code = 0
  · rw [if_pos hf]
    have h0 := needOf_there (by omega) hf
    obtain ⟨a', rfl⟩ := Int.eq_ofNat_of_zero_le h0.1
    have h2 : a' + 4 ≤ n := by omega
    rw [needOf_none hf] at HN ⊢
    rw [Int.toNat_natCast]
    have HB := Lib.hid hb
    unfold Fl.v at HN ⊢
    have hlt := be_take_lt (l.drop a') 4
    generalize hx : be ((l.drop a').take 4) = x at hlt ⊢
    have HX := Lib.hid hx
    have hlt' : x < 4294967296 := by omega
    clear hb h0 hf hx hlt
    go_enter Tryz.func90, Tryz.ntmps90
    go_wp2_with fail
    refine (HN.out _).mono ?_
    rintro e w1 ⟨rfl, h1⟩
    obtain ⟨W, hW, c0, c1, c2, f0, f1, f2, d0, d1, d2, hne, hb⟩ := boxed33 (a' := .int .i64 0) (b' := .int .i64 0) (c' := .bool false) (U := 36) h1
    have HW := Lib.hid hW
    have HWB := Lib.hid hb
    have hne' := Ne.symm hne
    have hk := num_any (HB.out.later (hb.drew) (Nat.le_refl _)) a' 4 h2 (by omega)
    rw [HX.out] at hk
    have HK := Lib.hid hk
    clear h1 hb hW hk
    go_wp2_with fail
    rw [HW.out]
    go_region_held3 (fun w' => w'.cell? ⟨w1.heap.size, 0, none⟩ = some (.int .i64 0) ∧ w'.cell? ⟨w1.heap.size, 1, none⟩ = some (.int .i64 0) ∧ w'.cell? ⟨w1.heap.size, 2, none⟩ = some (.bool false)) (go_keep) (first | (go_at_call 23; refine HK.out.mono ?_; rintro e w' ⟨rfl, rfl⟩))
    go_wp2
    exact bodyPost_ret (v := .tuple #[.int .u32 x, .agg #[.int .i64 0, .int .i64 0, .bool false]]) (by simp [results, Tryz.results90, go_sem, c0, c1, c2] <;> (rw [IntKind.wrap_u32]; omega)) rfl ⟨rfl, (((HWB.out.setCell (p := ⟨w.heap.size, 0, none⟩) (Nat.le_refl _) _).setCell (p := ⟨w.heap.size, 1, none⟩) (Nat.le_refl _) _).setCell (p := ⟨w.heap.size, 2, none⟩) (Nat.le_refl _) _).drew⟩
  · rw [if_neg hf]
    generalize needOf n at_ 4 = f at HN hf ⊢
    obtain ⟨fc, fa, fp_⟩ := f
    unfold Fl.v at HN ⊢
    simp only at hf HN ⊢
    have hne0 : (fc != 0) = true := by simp [hf]
    clear hb hf
    go_enter Tryz.func90, Tryz.ntmps90
    go_wp2_with fail
    refine (HN.out _).mono ?_
    rintro e w1 ⟨rfl, h1⟩
    obtain ⟨W, hW, c0, c1, c2, f0, f1, f2, d0, d1, d2, hne, hb⟩ := boxed33 (a' := .int .i64 fc) (b' := .int .i64 fa) (c' := .bool fp_) (U := 36) h1
    have HW := Lib.hid hW
    have HWB := Lib.hid hb
    have hne' := Ne.symm hne
    clear h1 hb hW
    go_wp2_with fail
    rw [HW.out]
    go_region_held3 (fun w' => w'.cell? ⟨w1.heap.size, 0, none⟩ = some (.int .i64 fc) ∧ w'.cell? ⟨w1.heap.size, 1, none⟩ = some (.int .i64 fa) ∧ w'.cell? ⟨w1.heap.size, 2, none⟩ = some (.bool fp_)) (go_keep) (fail)
    go_wp2
    exact bodyPost_ret (v := .tuple #[.int .u32 (0 : Nat), .agg #[.int .i64 fc, .int .i64 fa, .bool fp_]]) (by simp [results, Tryz.results90, go_sem, c0, c1, c2]) rfl ⟨rfl, (((HWB.out.setCell (p := ⟨w.heap.size, 0, none⟩) (Nat.le_refl _) _).setCell (p := ⟨w.heap.size, 1, none⟩) (Nat.le_refl _) _).setCell (p := ⟨w.heap.size, 2, none⟩) (Nat.le_refl _) _).drew⟩
end Go.Proofs.YtbikifaadpijnaaGreatDoor
