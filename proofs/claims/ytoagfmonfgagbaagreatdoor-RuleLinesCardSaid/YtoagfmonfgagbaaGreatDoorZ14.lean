/-
  
-/
import Derived.Test.YtoagfmonfgagbaaGreatDoorZ12
import Derived.Test.YtoagfmonfgagbaaGreatDoorZ06
import Derived.Test.YtoagfmonfgagbaaGreatDoorZ04
import Derived.WalkKit
import Derived.IntWalk
import Derived.BigRegion
import Derived.Outline
import Derived.Laws.BitsAllLaws
import Derived.Laws.BitsLemmas
namespace Go.Proofs.YtoagfmonfgagbaaGreatDoor
open Go.RowKit
set_option maxRecDepth 100000
def hd (k : Nat) : UInt8 := if k < 10 then UInt8.ofNat (48 + k) else UInt8.ofNat (87 + k)
def hexL (v : Nat) : List UInt8 := if _h : v < 16 then [hd v] else hexL (v / 16) ++ [hd (v % 16)]
termination_by v
decreasing_by omega
theorem hexL_small {v : Nat} (h : v < 16) : hexL v = [hd v] := by rw [hexL, dif_pos h]
theorem hexL_big {v : Nat} (h : ¬ v < 16) : hexL v = hexL (v / 16) ++ [hd (v % 16)] := by rw [hexL, dif_neg h]
def rowF (i : Nat) (suf : List UInt8) : List Value := bv (List.replicate i 0 ++ suf)
theorem rowF_set {i : Nat} {suf : List UInt8} (x : UInt8) : (rowF (i + 1) suf).set i (.int .u8 x.toNat) = rowF i (x :: suf) := by
  unfold rowF
  rw [bv_set, List.replicate_succ', List.append_assoc, List.set_append_right _ _ (by simp)]
  simp
theorem rowF_get {i j : Nat} {suf : List UInt8} (h : j < i) : (rowF i suf)[j]? = some (.int .u8 0) := by
  unfold rowF
  rw [show (Value.int IntKind.u8 0) = Value.int .u8 ((0 : UInt8).toNat : Int) from rfl]
  apply bv_at
  rw [List.getElem?_append_left (by simpa using h), List.getElem?_replicate, if_pos h]
abbrev digs : ByteArray := ⟨#[48, 49, 50, 51, 52, 53, 54, 55, 56, 57, 97, 98, 99, 100, 101, 102, 103, 104, 105, 106, 107, 108, 109, 110, 111, 112, 113, 114, 115, 116, 117, 118, 119, 120, 121, 122]⟩
theorem digs_at (k : Nat) (hk : k < 16) (h : k < digs.size) : digs[k]'h = hd k := by
  have : ∀ i : Fin 16, digs[(i : Nat)]'(Nat.lt_of_lt_of_le i.2 (by decide)) = hd i := by decide
  exact this ⟨k, hk⟩
theorem and15 (m : Nat) (h : m < 65536) : bits .and .u64 (m : Int) 15 = ((m % 16 : Nat) : Int) := by
  have := Go.u64_and_nat m 15 (by omega) (by omega)
  rw [show (15 : Int) = ((15 : Nat) : Int) from rfl, this, show m &&& 15 = m % 16 from Nat.and_two_pow_sub_one_eq_mod m 4]
theorem tz64_16 {w : World} (hE : Env w) : Calls Tryz.prog 153 #[.int .u64 16] w fun e w' => e = .returned (.int .i64 4) ∧ w = w' := by
  have h4 := hE.four
  have hb : IntKind.u64.wrap (bits .and .u64 16 (IntKind.u64.wrap (-16)) * 285870213051353865) / 288230376151711744 = 15 := by decide
  clear hE
  go_enter Tryz.func153, Tryz.ntmps153
  go_wp2
  go_ret
  exact ⟨rfl, rfl⟩
theorem tz16 {w : World} (hE : Env w) : Calls Tryz.prog 137 #[.int .u64 16] w fun e w' => e = .returned (.int .i64 4) ∧ w = w' := by
  have K := Lib.hid (tz64_16 hE)
  clear hE
  go_enter Tryz.func137, Tryz.ntmps137
  go_wp2_with (go_at_call 153; refine K.out.mono ?_; rintro e w' ⟨rfl, rfl⟩)
  go_ret
  exact ⟨rfl, rfl⟩
theorem pow2_16 (w : World) : Calls Tryz.prog 136 #[.int .i64 16] w fun e w' => e = .returned (.bool true) ∧ w = w' := by
  have h : bits .and .i64 16 15 = 0 := by decide
  go_enter Tryz.func136, Tryz.ntmps136
  go_wp2
  go_ret
  exact ⟨rfl, rfl⟩
theorem slice65 (g i : Nat) (hi : i < 65) (w : World) : (Instr.sliceAt 207 (.pointer (some ⟨g, 0, none⟩)) (some (.int .i64 (i : Int))) none none).run Tryz.prog w = .ok (.slice (some ⟨g, i, none⟩) (65 - i) (65 - i)) w := by
  have ha : Tryz.prog.arrayLen 207 = 65 := by kernel_rfl
  have hs : (sizeOf (Tryz.prog.elem 207)).run Tryz.prog w = .ok 1 w := by kernel_rfl
  rw [run_sliceAt_array_l (P := Tryz.prog) w 207 ⟨g, 0, none⟩ (by kernel_rfl) .i64 (i : Int) (by omega) (by rw [ha]; omega), hs, ha]
  simp only [Result.andThen_ok, slicedAt, Int.toNat_natCast, if_neg (show ¬ 65 = i by omega), add_plain, Nat.mul_one, Nat.zero_add]
theorem conv65 {w : World} {g i : Nat} {suf : List UInt8} (h : Row w g 207 (rowF i suf)) (hl : i + suf.length = 65) : (convert 67 9 (.slice (some ⟨g, i, none⟩) (65 - i) (65 - i))).run Tryz.prog w = .ok (.string ⟨suf.toArray⟩) w := by
  have hb : Bs w (some ⟨g, i, none⟩) (65 - i) (65 - i) suf := ⟨by omega, Nat.le_refl _, by unfold maxLen; omega, (fun h => by cases h), fun _ => ⟨g, i, rfl, fun j x hx => h.cell (by
    unfold rowF
    apply bv_at
    rw [List.getElem?_append_right (by simp)]
    simpa using hx)⟩⟩
  exact hb.convert 67 5 9 Tryz.underlying67 Tryz.underlying5 Tryz.underlying9
set_option maxHeartbeats 2000000 in
theorem fmtBits (v : Nat) (hv : v < 65536) {w : World} (hE : Env w) : Calls Tryz.prog 121 #[.slice none 0 0, .int .u64 v, .int .i64 16, .bool false, .bool false] w fun e w' =>
    e = .returned (.tuple #[.slice none 0 0, .string ⟨(hexL v).toArray⟩]) ∧ Below w.heap.size w w' := by
  have HE := Lib.hid hE
  clear hE
  go_enter Tryz.func121, Tryz.ntmps121
  go_wp2_with (first
    | (go_at_call 136; refine (pow2_16 _).mono ?_; rintro e w' ⟨rfl, rfl⟩)
    | (go_at_call 137; refine (tz16 (HE.out.later ((Below.refl w.heap.size w).alloc (Nat.le_refl _) _) (Nat.le_refl _))).mono ?_; rintro e w' ⟨rfl, rfl⟩))
  have hz : (Tryz.zeroCells207).toList = rowF 65 [] := by kernel_rfl
  have r0 := Row.new' w 207 hz
  have b0 : Below w.heap.size w (w.alloc (.cells Tryz.zeroCells207 207)) := (Below.refl _ _).alloc (Nat.le_refl _) _
  generalize hW : w.alloc (.cells Tryz.zeroCells207 207) = W at r0 b0 ⊢
  have H0 := Lib.hid (And.intro r0 b0)
  clear hW r0 b0 hz
  go_loopw [1, 13] (fun u i wr => ∃ (m i' : Nat) (suf : List UInt8), u = .int .u64 m ∧ i = .int .i64 i' ∧ m < 16 ^ (i' - 61) ∧ 61 < i' ∧ i' + suf.length = 65 ∧ Hid (hexL v = hexL m ++ suf ∧ Row wr w.heap.size 207 (rowF i' suf) ∧ Below w.heap.size w wr)) (fun u _ _ => (intOf u).toNat)
  case atStart => exact ⟨v, 65, [], rfl, rfl, by omega, by omega, rfl, Lib.hid ⟨by simp, H0.out.1, H0.out.2⟩⟩
  case round =>
    obtain ⟨m, i, suf, rfl, rfl, hm, hi, hsl, hh⟩ := hrel
    have hm2 : m < 65536 := Nat.lt_of_lt_of_le hm (Nat.le_trans (Nat.pow_le_pow_right (by omega) (show i - 61 ≤ 4 by omega)) (by decide))
    by_cases hlt : m < 16
    · obtain ⟨i0, rfl⟩ : ∃ i0, i = i0 + 1 := ⟨i - 1, by omega⟩
      have hc := hh.out.2.1.cell (rowF_get (suf := suf) (show i0 < i0 + 1 by omega))
      have hf := hh.out.2.1.frozen i0
      have hd1 := digs_at m hlt (by show m < 36; omega)
      have h1 : hexL v = hd m :: suf := by rw [hh.out.1, hexL_small hlt]; rfl
      have r2 := hh.out.2.1.put i0 (.int .u8 (hd m).toNat)
      rw [rowF_set] at r2
      have b2 := hh.out.2.2.setCell (p := ⟨w.heap.size, i0, none⟩) (Nat.le_refl _) (.int .u8 (hd m).toNat)
      have hsl := slice65 w.heap.size i0 (by omega)
      have hcv := conv65 r2 (by simp only [List.length_cons]; omega)
      have hv1 : (.int .u8 ((digs[m]'(by show m < 36; omega)).toNat : Int) : Value) = .int .u8 ((hd m).toNat : Int) := by rw [hd1]
      have H2 := Lib.hid b2
      have HH := Lib.hid (And.intro h1 hd1)
      clear hm r2 b2 h1 hd1
      go_wp2_with fail
      go_ret2
      exact ⟨by rw [HH.out.1]; rfl, H2.out⟩
    · have hi3 : 63 ≤ i := by
        rcases Nat.lt_or_ge i 63 with h | h
        · have : i - 61 = 1 := by omega
          rw [this] at hm; omega
        · exact h
      obtain ⟨i0, rfl⟩ : ∃ i0, i = i0 + 1 := ⟨i - 1, by omega⟩
      have hbm := and15 m hm2
      have hc := hh.out.2.1.cell (rowF_get (suf := suf) (show i0 < i0 + 1 by omega))
      have hf := hh.out.2.1.frozen i0
      have hk0 : (m % 16 : Nat) < 16 := by omega
      have h1 : hexL v = hexL (m / 16) ++ hd (m % 16) :: suf := by rw [hh.out.1, hexL_big hlt, List.append_assoc]; rfl
      have hm3 : m / 16 < 16 ^ (i0 - 61) := by
        rw [Nat.div_lt_iff_lt_mul (by omega), show 16 ^ (i0 - 61) * 16 = 16 ^ (i0 + 1 - 61) by rw [← Nat.pow_succ]; congr 1; omega]
        exact hm
      obtain ⟨k, hkk⟩ : ∃ k, m % 16 = k := ⟨_, rfl⟩
      rw [hkk] at hbm hk0 h1
      clear hkk
      have hd1 := digs_at k hk0 (by show k < 36; omega)
      have r2 := hh.out.2.1.put i0 (.int .u8 (hd k).toNat)
      rw [rowF_set] at r2
      have b2 := hh.out.2.2.setCell (p := ⟨w.heap.size, i0, none⟩) (Nat.le_refl _) (.int .u8 (hd k).toNat)
      have hv1 : (.int .u8 ((digs[k]'(by show k < 36; omega)).toNat : Int) : Value) = .int .u8 ((hd k).toNat : Int) := by rw [hd1]
      have H2 := Lib.hid (And.intro h1 (And.intro r2 b2))
      have HM := Lib.hid hm3
      clear hm r2 b2 h1 hd1 hm3
      go_wp2_with fail
      refine ⟨⟨m / 16, i0, hd k :: suf, by go_num, rfl, HM.out, by omega, by simp only [List.length_cons]; omega, Lib.hid ⟨H2.out.1, ?_, ?_⟩⟩, by simp [intOf]; omega⟩
      · exact H2.out.2.1
      · exact H2.out.2.2
theorem FormatInt16 (v : Nat) (hv : v < 65536) {w : World} (hE : Env w) : Calls Tryz.prog 88 #[.int .i64 v, .int .i64 16] w fun e w' => e = .returned (.string ⟨(hexL v).toArray⟩) ∧ Below w.heap.size w w' := by
  have K := Lib.hid (fmtBits v hv hE)
  clear hE
  have hn : ((v : Int) < 0) = False := by simp
  have k2 : Calls Tryz.prog 106 #[.int .i64 v, .int .i64 16] w fun e w' => e = .returned (.string ⟨(hexL v).toArray⟩) ∧ Below w.heap.size w w' := by
    clear hn
    go_enter Tryz.func106, Tryz.ntmps106
    go_wp2_with fail
    refine K.out.mono ?_
    rintro e w1 ⟨rfl, b1⟩
    have H1 := Lib.hid b1
    clear b1
    go_wp2_with fail
    go_ret
    exact ⟨rfl, H1.out⟩
  have K2 := Lib.hid k2
  clear k2 hn
  go_enter Tryz.func88, Tryz.ntmps88
  go_wp2_with fail
  refine K2.out.mono ?_
  rintro e w1 ⟨rfl, b1⟩
  have H1 := Lib.hid b1
  clear b1
  go_wp2_with fail
  go_ret
  exact ⟨rfl, H1.out⟩
end Go.Proofs.YtoagfmonfgagbaaGreatDoor
