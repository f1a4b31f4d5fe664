/-
  stockadelaw12.NamePointers answers true, whatever is handed in. Conditions: what the program's text has laid (internal/bytealg.MaxLen holds an int; errors.errorType holds the handle of the type error).
-/
import Derived.Test.YthhfmjdknoplkaaDoorN12ShortW
import Derived.Test.YthhfmjdknoplkaaDoorLw12
import Derived.Deep.DeepCutAuto
import Derived.IntWalk
namespace Go.Proofs.YthhfmjdknoplkaaDoor
open Go.RowKit
set_option maxRecDepth 100000

theorem chained_next {out : List UInt8} {j : Nat} (hl : out.length = 3 + 4 * j) (h : Chained out j) : Chained (out ++ [1, 98, 192, UInt8.ofNat (ptrTo j)]) (j + 1) := by
  refine ⟨?_, fun i hi => ?_⟩
  · rw [List.take_append_of_le_length (by omega)]
    exact h.1
  · by_cases he : i = j
    · subst he
      rw [← hl, List.drop_left' rfl]
      rfl
    · have := h.2 i (by omega)
      rw [List.drop_append_of_le_length (by omega), List.take_append_of_le_length (by rw [List.length_drop]; omega)]
      exact this
theorem chained_start : Chained [1, 97, 0] 0 := ⟨rfl, fun j h => absurd h (by omega)⟩
/-- The last pointer turned to another place. -/
theorem chained_turn {out : List UInt8} {m : Nat} (hl : out.length = 3 + 4 * (m + 1)) (h : Chained out (m + 1)) (x y : UInt8) : ((out.take (3 + 4 * m + 2)) ++ [x, y]).drop (3 + 4 * m) = [1, 98, x, y] := by
  have h1 := h.2 m (by omega)
  rw [List.drop_append_of_le_length (by rw [List.length_take]; omega), List.drop_take, show 3 + 4 * m + 2 - (3 + 4 * m) = 2 by omega]
  have h2 : (out.drop (3 + 4 * m)).take 2 = [1, 98] := by
    have := congrArg (List.take 2) h1
    rw [List.take_take] at this
    exact this
  rw [h2]
  rfl
theorem ptrTo_lt {j : Nat} (h : j ≤ 40) : ptrTo j ≤ 159 := by unfold ptrTo; split <;> omega
theorem lit_ptr {m : Nat} (h : m < 60) : (#[Value.int .u8 1, .int .u8 98, .int .u8 (192 + (3 + 4 * (m : Int)) / 256), .int .u8 (3 + 4 * (m : Int))] : Array Value).toList = bv [1, 98, 192, UInt8.ofNat (ptrTo (m + 1))] := by
  have e : ptrTo (m + 1) = 3 + 4 * m := by
    unfold ptrTo
    rw [if_neg (by omega)]
    omega
  rw [e]
  simp [bv]
  omega
theorem lit_turn {k d : Nat} (hk : k < 60) (hd : d < 1000) : (#[Value.int .u8 (192 + (3 + 4 * (k : Int) + (d : Int)) / 256), .int .u8 ((3 + 4 * (k : Int) + (d : Int)) % 256)] : Array Value).toList = bv [UInt8.ofNat (192 + (3 + 4 * k + d) / 256), UInt8.ofNat ((3 + 4 * k + d) % 256)] := by
  simp [bv]
  omega
theorem below_of_nil {w w' : World} (h : w.grownBy w' none) : Below w.heap.size w w' := ⟨h.os, h.tape, h.output, h.size, fun i hi => h.block i hi (by simp)⟩
set_option maxHeartbeats 2000000 in
theorem namePointers (n tz : Int) {w : World} (hE : Env w) (hg : Handle w) : Calls Tryd.prog 4 #[.int .i64 n, .int .i64 tz] w fun e w' => e = .returned (.bool true) ∧ Below w.heap.size w w' := by
  have HE := Lib.hid hE
  have HG := Lib.hid hg
  clear hE hg
  obtain ⟨q1, q2⟩ := num_modS n 40 (by omega) (by omega)
  obtain ⟨q3, q4⟩ := num_modS tz 1000 (by omega) (by omega)
  go_enter Tryd.func4, Tryd.ntmps4
  go_upto_region 2 with fail
  generalize wrap64 ((IntKind.u64.wrap n).tmod 40) = k at q1 q2 ⊢
  obtain ⟨k, rfl⟩ := Int.eq_ofNat_of_zero_le q1
  have hk : k < 40 := by omega
  clear q1 q2
  rw [show (1 : Int) + (k : Int) = ((k + 1 : Nat) : Int) by omega]
  have O0 := World.ownsRow_lit (base := w.heap.size) (e := 5) (size := 1) w #[.int .u8 1, .int .u8 97, .int .u8 0] 3 (Nat.le_refl _) (by unfold maxLen; omega) rfl
  have B0 : Below w.heap.size w (w.alloc (.cells #[.int .u8 1, .int .u8 97, .int .u8 0] 5)) := (Below.refl _ _).alloc (Nat.le_refl _) _
  have H0 := Lib.hid (And.intro O0 B0)
  clear O0 B0
  go_wp2_with fail
  generalize w.alloc (.cells #[.int .u8 1, .int .u8 97, .int .u8 0] 5) = W at H0 ⊢
  go_loopw [5, 6, 7] (fun v t i wr => ∃ (j : Nat) (out : List UInt8), j ≤ k + 1 ∧ i = .int .i64 j ∧ out.length = 3 + 4 * j ∧ Chained out j ∧ wr.ownsRow w.heap.size 5 1 v (3 + 4 * j) (bv out) ∧ t = .string (mkS (wantC j)) ∧ (wantC j).length = 1 + 2 * j ∧ Below w.heap.size w wr) (fun _ _ i _ => k + 1 - (intOf i).toNat)
  case atStart => exact ⟨0, [1, 97, 0], by omega, rfl, rfl, chained_start, H0.out.1, rfl, rfl, H0.out.2⟩
  case round =>
    obtain ⟨j, out, hj, rfl, hol, hch, ho, rfl, hwl, hbe⟩ := hrel
    by_cases hlt : j < k + 1
    · have hp : ptrTo j ≤ 159 := ptrTo_lt (by omega)
      have hws : (mkS (wantC j)).size = 1 + 2 * j := by rw [mkS_size]; exact hwl
      have hcat : (⟨#[98, 46]⟩ : ByteArray) ++ mkS (wantC j) = mkS (wantC (j + 1)) := by rw [wantC_succ]; exact mkS_append [98, 46] _
      have hm1 : ¬ 9223372036854775807 < 2 + (1 + 2 * j) := by omega
      have hnext : (wantC (j + 1)).length = 1 + 2 * (j + 1) := by rw [wantC_succ]; simp only [List.length_cons]; omega
      have HO := Lib.hid (And.intro ho (And.intro (chained_next hol hch) (And.intro hnext hbe)))
      have hol2 : (out ++ [1, 98, 192, UInt8.ofNat (ptrTo j)]).length = 3 + 4 * (j + 1) := by rw [List.length_append, hol]; rfl
      have HOL := Lib.hid hol2
      clear ho hch hbe hwl hnext hol hol2
      rcases Nat.eq_zero_or_pos j with h0 | h0
      · subst h0
        go_wp2_with (at_builtin; refine wpList_append_bs rfl (.tmp 34) (.tmp 41) 22 rfl w.heap.size 5 info5 Tryd.underlying22 _ _ out rfl (HO.out.1.alloc _) _ 4 4 [1, 98, 192, UInt8.ofNat (ptrTo 0)] rfl (by exact Bs.lit _ [1, 98, 192, UInt8.ofNat (ptrTo 0)] 4 rfl (by unfold maxLen; omega) _ (rfl) _) (by omega) (by have := HO.out.2.2.2.size; simp; omega) ?_; intro v3 w3 o3 g3 n3 m3; have H3 := Lib.hid (And.intro o3 g3); clear o3 g3 n3 m3)
        have hb3 : Below w.heap.size w w3 := (HO.out.2.2.2.alloc HO.out.2.2.2.size _).grown H3.out.2 (by have := HO.out.2.2.2.size; simp; omega) (fun q hq => (HO.out.1.lt q hq).1)
        refine ⟨⟨1, out ++ [1, 98, 192, UInt8.ofNat (ptrTo 0)], by omega, by go_num, HOL.out, HO.out.2.1, owns_n (by omega) H3.out.1, rfl, HO.out.2.2.1, hb3⟩, by simp [intOf]⟩
      · obtain ⟨m, rfl⟩ : ∃ m, j = m + 1 := ⟨j - 1, by omega⟩
        go_wp2_with (at_builtin; refine wpList_append_bs rfl (.tmp 34) (.tmp 41) 22 rfl w.heap.size 5 info5 Tryd.underlying22 _ _ out rfl (HO.out.1.alloc _) _ 4 4 [1, 98, 192, UInt8.ofNat (ptrTo (m + 1))] rfl (by exact Bs.lit _ [1, 98, 192, UInt8.ofNat (ptrTo (m + 1))] 4 rfl (by unfold maxLen; omega) _ (lit_ptr (by omega)) _) (by omega) (by have := HO.out.2.2.2.size; simp; omega) ?_; intro v3 w3 o3 g3 n3 m3; have H3 := Lib.hid (And.intro o3 g3); clear o3 g3 n3 m3)
        have hb3 : Below w.heap.size w w3 := (HO.out.2.2.2.alloc HO.out.2.2.2.size _).grown H3.out.2 (by have := HO.out.2.2.2.size; simp; omega) (fun q hq => (HO.out.1.lt q hq).1)
        refine ⟨⟨m + 1 + 1, out ++ [1, 98, 192, UInt8.ofNat (ptrTo (m + 1))], by omega, by go_num, HOL.out, HO.out.2.1, owns_n (by omega) H3.out.1, rfl, HO.out.2.2.1, hb3⟩, by simp [intOf]; omega⟩
    · obtain rfl : j = k + 1 := by omega
      have hlast : ptrTo 0 = 0 := rfl
      obtain ⟨A, c, rfl, hB⟩ := Bs.of_own ho
      have hcap := hB.cap
      have hmax := hB.max
      unfold maxLen at hmax
      have hrd : readv out (3 + 4 * (k + 1)) ((3 + 4 * k : Nat) : Int) = .ok (wantC (k + 1)) (3 + 4 * (k + 1)) := chain_last hol hch (by omega) (by omega) rfl
      have K1 := Lib.hid (read_fine hB (by omega) (3 + 4 * (k : Int)) (by omega) (by rw [show (3 : Int) + 4 * (k : Int) = ((3 + 4 * k : Nat) : Int) by omega]; exact hrd))
      have hcut := hB.cut (i := 0) (k := 3 + 4 * k + 2) (by omega) (A' := A) (fun _ => by cases A <;> simp [Addr.add]) (fun h => h)
      rw [List.drop_zero, Nat.sub_zero] at hcut
      have HB := Lib.hid (And.intro hcut (And.intro hch (And.intro hol hbe)))
      have hlk : 1 + k = k + 1 := by omega
      clear hB hrd hcut hch hol hbe ho hwl
      go_wp2_with fail
      refine K1.out.mono ?_
      rintro e w1 ⟨rfl, b1⟩
      have H1 := Lib.hid (And.intro (HB.out.1.later b1 (Nat.le_refl _)) (HB.out.2.2.2.trans (b1.mono HB.out.2.2.2.size)))
      clear b1
      go_upto_region 15 with fail
      generalize wrap64 ((IntKind.u64.wrap tz).tmod 1000) = d at q3 q4 ⊢
      obtain ⟨d, rfl⟩ := Int.eq_ofNat_of_zero_le q3
      have hd : d < 1000 := by omega
      clear q3 q4
      go_wp2_with (first
        | (at_builtin; refine wpList_append_bs rfl (.const (.slice none 0 0)) (.tmp 65) 22 rfl w1.heap.size 5 info5 Tryd.underlying22 _ 0 [] rfl (World.ownsRow_nil _ _ _ _) _ (3 + 4 * k + 2) c (out.take (3 + 4 * k + 2)) rfl H1.out.1 (by omega) (Nat.le_refl _) ?_; intro v3 w3 o3 g3 n3 m3; have H3 := Lib.hid (And.intro o3 g3); clear o3 g3 n3 m3)
        | (at_builtin; refine wpList_append_bs rfl (.tmp 66) (.tmp 73) 22 rfl w1.heap.size 5 info5 Tryd.underlying22 _ (0 + (3 + 4 * k + 2)) ([] ++ out.take (3 + 4 * k + 2)) rfl (H3.out.1.alloc _) _ 2 2 [UInt8.ofNat (192 + (3 + 4 * k + d) / 256), UInt8.ofNat ((3 + 4 * k + d) % 256)] rfl (by exact Bs.lit _ [UInt8.ofNat (192 + (3 + 4 * k + d) / 256), UInt8.ofNat ((3 + 4 * k + d) % 256)] 2 rfl (by unfold maxLen; omega) _ (lit_turn (by omega) hd) _) (by omega) (by have := H3.out.2.size; simp; omega) ?_; intro v4 w4 o4 g4 n4 m4; have H4 := Lib.hid (And.intro o4 g4); clear o4 g4 n4 m4))
      have hb3 : Below w1.heap.size w1 w3 := below_of_nil H3.out.2
      have hb4 : Below w1.heap.size w1 w4 := (hb3.alloc hb3.size _).grown H4.out.2 (by have := hb3.size; simp; omega) (fun q hq => (H3.out.1.lt q hq).1)
      have o5 : w4.ownsRow w1.heap.size 5 1 v4 (3 + 4 * k + 4) (bv (out.take (3 + 4 * k + 2) ++ [UInt8.ofNat (192 + (3 + 4 * k + d) / 256), UInt8.ofNat ((3 + 4 * k + d) % 256)])) := owns_n (by omega) H4.out.1
      obtain ⟨A4, c4, rfl, hB4⟩ := Bs.of_own o5
      have hrd2 : readv (out.take (3 + 4 * k + 2) ++ [UInt8.ofNat (192 + (3 + 4 * k + d) / 256), UInt8.ofNat ((3 + 4 * k + d) % 256)]) (3 + 4 * k + 4) ((3 + 4 * k : Nat) : Int) = .bad 14 (3 + 4 * k + 2) := @chain_bad _ _ _ (3 + 4 * k + d) hB4.len _ _ (chained_turn HB.out.2.2.1 HB.out.2.1 _ _) (by rw [UInt8.toNat_ofNat']; omega) (by rw [UInt8.toNat_ofNat']; omega) (by omega) (by omega)
      have K2 := Lib.hid (read_no hB4 (by omega) (3 + 4 * (k : Int)) (by omega) (by rw [show (3 : Int) + 4 * (k : Int) = ((3 + 4 * k : Nat) : Int) by omega]; exact hrd2) (by decide))
      have H5 := Lib.hid (H1.out.2.trans (hb4.mono H1.out.2.size))
      clear hb3 hb4 o5 hB4 hrd2
      go_wp2_with fail
      refine K2.out.mono ?_
      rintro e w5 ⟨T5, x5, rfl, t5, b5⟩
      have H6 := Lib.hid (And.intro t5 (H5.out.trans (b5.mono H5.out.size)))
      clear t5 b5
      go_wp2_with fail
      refine (awake12 (HE.out.later H6.out.2 (Nat.le_refl _))).mono ?_
      rintro e w6 ⟨rfl, b6⟩
      have H7 := Lib.hid (And.intro (H6.out.1.later b6 (Nat.le_refl _)) (H6.out.2.trans (b6.mono H6.out.2.size)))
      clear b6
      go_wp2_with fail
      refine (help_at 14 (3 + 4 * (k : Int) + 2) w6).mono ?_
      rintro e w7 ⟨rfl, b7⟩
      have H8 := Lib.hid (And.intro (H7.out.1.later b7 (Nat.le_refl _)) (H7.out.2.trans (b7.mono H7.out.2.size)))
      clear b7
      go_wp2_with fail
      refine (is_told3 (by have h := H8.out.1; rw [show ((3 + 4 * k + 2 : Nat) : Int) = 3 + 4 * (k : Int) + 2 by omega] at h; exact h) (HG.out.later H8.out.2 (Nat.le_refl _))).mono ?_
      rintro e w8 ⟨rfl, b8⟩
      have H9 := Lib.hid (H8.out.2.trans (b8.mono H8.out.2.size))
      clear b8
      go_wp2_with fail
      go_ret
      exact ⟨rfl, H9.out⟩
end Go.Proofs.YthhfmjdknoplkaaDoor
