/-
  
-/
import Derived.Test.YtoagfmonfgagbaaGreatDoorZ05
import Derived.Test.YtoagfmonfgagbaaGreatDoorChecked
import Derived.Below
import Derived.Lib.Walk
import Derived.Lib.ConvBytes
import Derived.Lib.AtoiErrMem
import Derived.Laws.Strings3
import Derived.Laws.Closers25
import Derived.Laws.Closers25b
import Derived.WalkKit
import Derived.BigCall
import Derived.BigGuard
import Derived.IntWalk
import Derived.RowKit
import Derived.Outline
namespace Go.Proofs.YtoagfmonfgagbaaGreatDoor
open Go.RowKit
set_option maxRecDepth 100000
def uTup : Option Nat → Value
  | some n => .tuple #[.int .u64 n, .nilIface]
  | none => .tuple #[.int .u64 0, .iface 224 (.int .i64 2)]
def low (c : UInt8) : Int := bits .or .u8 c.toNat 32
theorem low_facts (c : UInt8) (h : ¬ (48 ≤ c.toNat ∧ c.toNat ≤ 57)) : 0 ≤ low c ∧ low c ≤ 255 ∧ (if 97 ≤ low c ∧ low c ≤ 122 then (dg c : Int) = low c - 97 + 10 else dg c = 99) := by
  revert h
  have : ∀ n : Fin 256, ¬ (48 ≤ (UInt8.ofNat n).toNat ∧ (UInt8.ofNat n).toNat ≤ 57) → 0 ≤ low (UInt8.ofNat n) ∧ low (UInt8.ofNat n) ≤ 255 ∧ (if 97 ≤ low (UInt8.ofNat n) ∧ low (UInt8.ofNat n) ≤ 122 then (dg (UInt8.ofNat n) : Int) = low (UInt8.ofNat n) - 97 + 10 else dg (UInt8.ofNat n) = 99) := by decide +kernel
  have h2 := this ⟨c.toNat, c.toNat_lt⟩
  rw [show UInt8.ofNat ((⟨c.toNat, c.toNat_lt⟩ : Fin 256) : Nat) = c from UInt8.ofNat_toNat] at h2
  exact h2
theorem lower_any (c : Int) (w : World) : Calls Tryz.prog 162 #[.int .u8 c] w fun e w' => e = .returned (.int .u8 (bits .or .u8 c 32)) ∧ w = w' := by
  go_enter Tryz.func162, Tryz.ntmps162
  go_wp2
  go_ret
  exact ⟨rfl, rfl⟩
theorem pu_empty (B : Int) (w : World) : Calls Tryz.prog 150 #[.string ⟨#[]⟩, .int .i64 B, .int .i64 32] w fun e w' => e = .returned (uTup (pu 10 [])) ∧ Below w.heap.size w w' := by
  go_enter Tryz.func150, Tryz.ntmps150
  go_wp2
  go_ret2
  exact ⟨rfl, Below.refl _ _⟩
set_option maxRecDepth 100000 in
set_option maxHeartbeats 8000000 in
theorem pu_10 (t : ByteArray) (hne : t.size ≠ 0) (hmax : t.size ≤ 4) (w : World) :
    Calls Tryz.prog 150 #[.string t, .int .i64 10, .int .i64 32] w fun e w' => e = .returned (uTup (pu 10 t.data.toList)) ∧ Below w.heap.size w w' := by
  have hemp : t.toList.isEmpty = false := by
    rw [← decide_eq_emptyBytes]
    exact decide_eq_false (fun h => hne (by rw [h]; rfl))
  have hcv := Lib.run_convert_string_bytes (P := Tryz.prog) w 9 67 5 t (u := .string) Tryz.underlying9 Tryz.underlying67 Tryz.underlying5
  have hB : ∀ j, j < t.size → (Lib.bytesWorld w 5 t).cell? ⟨w.heap.size, j, none⟩ = some (.int .u8 (t.data.toList.getD j 0).toNat) := fun j hj => Lib.bytesWorld_cell w 5 t j hj
  have hbe : Below w.heap.size w (Lib.bytesWorld w 5 t) := Lib.bytesWorld_below w 5 t
  obtain ⟨W1, hW1⟩ : ∃ W1, W1 = Lib.bytesWorld w 5 t := ⟨_, rfl⟩
  rw [← hW1] at hcv hB hbe
  clear hW1
  have HBe := Lib.hid hbe
  clear hbe
  obtain ⟨bs, hL⟩ : ∃ bs, bs = t.data.toList := ⟨_, rfl⟩
  have hLn : bs.length = t.size := by rw [hL, Lib.size_eq]
  have hpu : pu 10 bs = puGo 10 0 bs := by unfold pu; rw [if_neg (fun h => hne (by rw [← hLn, h]; rfl))]
  rw [← hL] at hB ⊢
  rw [hpu]
  clear hL hpu
  have hmv : IntKind.u64.wrap (IntKind.u64.wrap 4294967296 - 1) = 4294967295 := by
    rw [IntKind.wrap_u64, IntKind.wrap_u64]
    decide
  go_enter Tryz.func150, Tryz.ntmps150
  go_wp2
  go_loop [12, 13, 101] (fun vu vn vi => ∃ (k acc : Nat) (a : Int), vu = .bool false ∧ vn = .int .u64 a ∧ vi = .int .i64 k ∧ k ≤ t.size ∧ Hid (a = (acc : Int) ∧ acc < 10 ^ k ∧ puGo 10 0 bs = puGo 10 acc (bs.drop k)))
    (fun _ _ vi => t.size - (intOf vi).toNat)
  case atStart => exact ⟨0, 0, 0, rfl, rfl, rfl, by omega, rfl, by omega, rfl⟩
  case round =>
    obtain ⟨k, acc, a, rfl, rfl, rfl, hk, hh⟩ := hrel
    obtain ⟨ha, hacc, hdec⟩ := hh.out
    clear hh
    have hp4 : 10 ^ k ≤ 10 ^ 4 := Nat.pow_le_pow_right (by omega) (by omega)
    have hp5 : acc < 65536 := Nat.lt_of_lt_of_le hacc (Nat.le_trans hp4 (by decide))
    clear hp4
    have a0 : 0 ≤ a := by omega
    have a1 : a < 65536 := by omega
    by_cases hkn : k < t.size
    · have hc := hB k hkn
      have hdrop : bs.drop k = bs[k]'(by omega) :: bs.drop (k + 1) := List.drop_eq_getElem_cons (by omega)
      have hget : bs.getD k 0 = bs[k]'(by omega) := by simp [List.getD, List.getElem?_eq_getElem (show k < bs.length by omega)]
      rw [hdrop] at hdec
      rw [hget] at hc
      generalize bs[k]'(by omega) = c at hc hdec
      have hc256 : c.toNat < 256 := c.toNat_lt
      clear hB hdrop hget
      have hF : puGo 10 acc (c :: bs.drop (k + 1)) = if dg c < 10 then puGo 10 (acc * 10 + dg c) (bs.drop (k + 1)) else none := rfl
      rw [hF] at hdec
      clear hF
      by_cases hdig : 48 ≤ c.toNat ∧ c.toNat ≤ 57
      · obtain ⟨hd0, hd1⟩ := hdig
        have hdg : dg c = c.toNat - 48 := by unfold dg; rw [if_pos ⟨hd0, hd1⟩]
        rw [hdg, if_pos (by omega)] at hdec
        have HN : Hid (a * 10 + ((c.toNat : Int) - 48) = ((acc * 10 + (c.toNat - 48) : Nat) : Int) ∧ acc * 10 + (c.toNat - 48) < 10 ^ (k + 1) ∧ puGo 10 0 bs = puGo 10 (acc * 10 + (c.toNat - 48)) (bs.drop (k + 1))) := Lib.hid ⟨by omega, by rw [Nat.pow_succ]; omega, hdec⟩
        clear hacc hdec ha hdg
        go_wp2
        refine ⟨⟨k + 1, acc * 10 + (c.toNat - 48), a * 10 + ((c.toNat : Int) - 48), rfl, (by first | rfl | (congr 1; omega)), (by first | rfl | (congr 1; omega)), by omega, HN⟩, by simp [intOf]; omega⟩
      · by_cases h95 : (c.toNat : Int) = 95
        · have hdg : dg c = 99 := by unfold dg; rw [if_neg hdig, if_neg (by omega), if_neg (by omega)]
          rw [hdg, if_neg (by omega)] at hdec
          rw [h95] at hc
          have HD := Lib.hid hdec
          have H95 := Lib.hid h95
          clear hacc ha hdec hdig hdg h95
          have hu : bits .or .u8 95 32 = 127 := by decide
          go_wp2_with (go_at_call 162; refine (lower_any _ _).mono ?_; rw [hu]; rintro e w' ⟨rfl, rfl⟩)
          go_ret2
          exact ⟨by rw [HD.out]; rfl, HBe.out⟩
        have h95' : ((c.toNat : Int) == 95) = false := by simpa using h95
        obtain ⟨hv0, hv1, hv2⟩ := low_facts c hdig
        clear h95
        have hlw : bits .or .u8 c.toNat 32 = low c := rfl
        have hlow : ∀ w : World, Calls Tryz.prog 162 #[.int .u8 c.toNat] w fun e w' => e = .returned (.int .u8 (low c)) ∧ w = w' := fun w => lower_any _ w
        have HLOW := Lib.hid hlow
        clear hlow hlw
        generalize hlc : low c = lc at *
        clear hlc
        by_cases hal : 97 ≤ lc ∧ lc ≤ 122
        · rw [if_pos hal] at hv2
          obtain ⟨hl0, hl1⟩ := hal
          by_cases hlt : dg c < 10
          · rw [if_pos hlt] at hdec
            have HN : Hid (a * 10 + (lc - 97 + 10) = ((acc * 10 + dg c : Nat) : Int) ∧ acc * 10 + dg c < 10 ^ (k + 1) ∧ puGo 10 0 bs = puGo 10 (acc * 10 + dg c) (bs.drop (k + 1))) := Lib.hid ⟨by omega, by rw [Nat.pow_succ]; omega, hdec⟩
            have hlt2 : lc - 97 + 10 < 10 := by omega
            clear hacc hdec ha hv2
            go_wp2_with (go_at_call 162; refine (HLOW.out _).mono ?_; rintro e w' ⟨rfl, rfl⟩)
            all_goals refine ⟨⟨k + 1, acc * 10 + dg c, a * 10 + (lc - 97 + 10), rfl, (by first | rfl | (congr 1; omega)), (by first | rfl | (congr 1; omega)), by omega, HN⟩, by simp [intOf]; omega⟩
          · rw [if_neg hlt] at hdec
            have hlt2 : 10 ≤ lc - 97 + 10 := by omega
            clear hacc ha hv2
            have HD := Lib.hid hdec
            clear hdec
            go_wp2_with (go_at_call 162; refine (HLOW.out _).mono ?_; rintro e w' ⟨rfl, rfl⟩)
            all_goals go_ret2
            all_goals exact ⟨by rw [HD.out]; rfl, HBe.out⟩
        · rw [if_neg hal] at hv2
          rw [hv2, if_neg (by omega)] at hdec
          clear hacc ha hv2
          have HD := Lib.hid hdec
          clear hdec
          go_wp2_with (go_at_call 162; refine (HLOW.out _).mono ?_; rintro e w' ⟨rfl, rfl⟩)
          all_goals go_ret2
          all_goals exact ⟨by rw [HD.out]; rfl, HBe.out⟩
    · have hkk : k = t.size := by omega
      subst hkk
      rw [List.drop_eq_nil_of_le (by omega)] at hdec
      replace hdec : puGo 10 0 bs = some acc := hdec
      have HD := Lib.hid hdec
      subst ha
      clear hacc a0 a1 hdec
      go_wp2
      go_ret2
      exact ⟨by rw [HD.out]; rfl, HBe.out⟩
set_option maxRecDepth 100000 in
set_option maxHeartbeats 8000000 in
theorem pu_16 (t : ByteArray) (hne : t.size ≠ 0) (hmax : t.size ≤ 4) (w : World) :
    Calls Tryz.prog 150 #[.string t, .int .i64 16, .int .i64 32] w fun e w' => e = .returned (uTup (pu 16 t.data.toList)) ∧ Below w.heap.size w w' := by
  have hemp : t.toList.isEmpty = false := by
    rw [← decide_eq_emptyBytes]
    exact decide_eq_false (fun h => hne (by rw [h]; rfl))
  have hcv := Lib.run_convert_string_bytes (P := Tryz.prog) w 9 67 5 t (u := .string) Tryz.underlying9 Tryz.underlying67 Tryz.underlying5
  have hB : ∀ j, j < t.size → (Lib.bytesWorld w 5 t).cell? ⟨w.heap.size, j, none⟩ = some (.int .u8 (t.data.toList.getD j 0).toNat) := fun j hj => Lib.bytesWorld_cell w 5 t j hj
  have hbe : Below w.heap.size w (Lib.bytesWorld w 5 t) := Lib.bytesWorld_below w 5 t
  obtain ⟨W1, hW1⟩ : ∃ W1, W1 = Lib.bytesWorld w 5 t := ⟨_, rfl⟩
  rw [← hW1] at hcv hB hbe
  clear hW1
  have HBe := Lib.hid hbe
  clear hbe
  obtain ⟨bs, hL⟩ : ∃ bs, bs = t.data.toList := ⟨_, rfl⟩
  have hLn : bs.length = t.size := by rw [hL, Lib.size_eq]
  have hpu : pu 16 bs = puGo 16 0 bs := by unfold pu; rw [if_neg (fun h => hne (by rw [← hLn, h]; rfl))]
  rw [← hL] at hB ⊢
  rw [hpu]
  clear hL hpu
  have hmv : IntKind.u64.wrap (IntKind.u64.wrap 4294967296 - 1) = 4294967295 := by
    rw [IntKind.wrap_u64, IntKind.wrap_u64]
    decide
  go_enter Tryz.func150, Tryz.ntmps150
  go_wp2
  go_loop [12, 13, 101] (fun vu vn vi => ∃ (k acc : Nat) (a : Int), vu = .bool false ∧ vn = .int .u64 a ∧ vi = .int .i64 k ∧ k ≤ t.size ∧ Hid (a = (acc : Int) ∧ acc < 16 ^ k ∧ puGo 16 0 bs = puGo 16 acc (bs.drop k)))
    (fun _ _ vi => t.size - (intOf vi).toNat)
  case atStart => exact ⟨0, 0, 0, rfl, rfl, rfl, by omega, rfl, by omega, rfl⟩
  case round =>
    obtain ⟨k, acc, a, rfl, rfl, rfl, hk, hh⟩ := hrel
    obtain ⟨ha, hacc, hdec⟩ := hh.out
    clear hh
    have hp4 : 16 ^ k ≤ 16 ^ 4 := Nat.pow_le_pow_right (by omega) (by omega)
    have hp5 : acc < 65536 := Nat.lt_of_lt_of_le hacc (Nat.le_trans hp4 (by decide))
    clear hp4
    have a0 : 0 ≤ a := by omega
    have a1 : a < 65536 := by omega
    by_cases hkn : k < t.size
    · have hc := hB k hkn
      have hdrop : bs.drop k = bs[k]'(by omega) :: bs.drop (k + 1) := List.drop_eq_getElem_cons (by omega)
      have hget : bs.getD k 0 = bs[k]'(by omega) := by simp [List.getD, List.getElem?_eq_getElem (show k < bs.length by omega)]
      rw [hdrop] at hdec
      rw [hget] at hc
      generalize bs[k]'(by omega) = c at hc hdec
      have hc256 : c.toNat < 256 := c.toNat_lt
      clear hB hdrop hget
      have hF : puGo 16 acc (c :: bs.drop (k + 1)) = if dg c < 16 then puGo 16 (acc * 16 + dg c) (bs.drop (k + 1)) else none := rfl
      rw [hF] at hdec
      clear hF
      by_cases hdig : 48 ≤ c.toNat ∧ c.toNat ≤ 57
      · obtain ⟨hd0, hd1⟩ := hdig
        have hdg : dg c = c.toNat - 48 := by unfold dg; rw [if_pos ⟨hd0, hd1⟩]
        rw [hdg, if_pos (by omega)] at hdec
        have HN : Hid (a * 16 + ((c.toNat : Int) - 48) = ((acc * 16 + (c.toNat - 48) : Nat) : Int) ∧ acc * 16 + (c.toNat - 48) < 16 ^ (k + 1) ∧ puGo 16 0 bs = puGo 16 (acc * 16 + (c.toNat - 48)) (bs.drop (k + 1))) := Lib.hid ⟨by omega, by rw [Nat.pow_succ]; omega, hdec⟩
        clear hacc hdec ha hdg
        go_wp2
        refine ⟨⟨k + 1, acc * 16 + (c.toNat - 48), a * 16 + ((c.toNat : Int) - 48), rfl, (by first | rfl | (congr 1; omega)), (by first | rfl | (congr 1; omega)), by omega, HN⟩, by simp [intOf]; omega⟩
      · by_cases h95 : (c.toNat : Int) = 95
        · have hdg : dg c = 99 := by unfold dg; rw [if_neg hdig, if_neg (by omega), if_neg (by omega)]
          rw [hdg, if_neg (by omega)] at hdec
          rw [h95] at hc
          have HD := Lib.hid hdec
          have H95 := Lib.hid h95
          clear hacc ha hdec hdig hdg h95
          have hu : bits .or .u8 95 32 = 127 := by decide
          go_wp2_with (go_at_call 162; refine (lower_any _ _).mono ?_; rw [hu]; rintro e w' ⟨rfl, rfl⟩)
          go_ret2
          exact ⟨by rw [HD.out]; rfl, HBe.out⟩
        have h95' : ((c.toNat : Int) == 95) = false := by simpa using h95
        obtain ⟨hv0, hv1, hv2⟩ := low_facts c hdig
        clear h95
        have hlw : bits .or .u8 c.toNat 32 = low c := rfl
        have hlow : ∀ w : World, Calls Tryz.prog 162 #[.int .u8 c.toNat] w fun e w' => e = .returned (.int .u8 (low c)) ∧ w = w' := fun w => lower_any _ w
        have HLOW := Lib.hid hlow
        clear hlow hlw
        generalize hlc : low c = lc at *
        clear hlc
        by_cases hal : 97 ≤ lc ∧ lc ≤ 122
        · rw [if_pos hal] at hv2
          obtain ⟨hl0, hl1⟩ := hal
          by_cases hlt : dg c < 16
          · rw [if_pos hlt] at hdec
            have HN : Hid (a * 16 + (lc - 97 + 10) = ((acc * 16 + dg c : Nat) : Int) ∧ acc * 16 + dg c < 16 ^ (k + 1) ∧ puGo 16 0 bs = puGo 16 (acc * 16 + dg c) (bs.drop (k + 1))) := Lib.hid ⟨by omega, by rw [Nat.pow_succ]; omega, hdec⟩
            have hlt2 : lc - 97 + 10 < 16 := by omega
            clear hacc hdec ha hv2
            go_wp2_with (go_at_call 162; refine (HLOW.out _).mono ?_; rintro e w' ⟨rfl, rfl⟩)
            all_goals refine ⟨⟨k + 1, acc * 16 + dg c, a * 16 + (lc - 97 + 10), rfl, (by first | rfl | (congr 1; omega)), (by first | rfl | (congr 1; omega)), by omega, HN⟩, by simp [intOf]; omega⟩
          · rw [if_neg hlt] at hdec
            have hlt2 : 16 ≤ lc - 97 + 10 := by omega
            clear hacc ha hv2
            have HD := Lib.hid hdec
            clear hdec
            go_wp2_with (go_at_call 162; refine (HLOW.out _).mono ?_; rintro e w' ⟨rfl, rfl⟩)
            all_goals go_ret2
            all_goals exact ⟨by rw [HD.out]; rfl, HBe.out⟩
        · rw [if_neg hal] at hv2
          rw [hv2, if_neg (by omega)] at hdec
          clear hacc ha hv2
          have HD := Lib.hid hdec
          clear hdec
          go_wp2_with (go_at_call 162; refine (HLOW.out _).mono ?_; rintro e w' ⟨rfl, rfl⟩)
          all_goals go_ret2
          all_goals exact ⟨by rw [HD.out]; rfl, HBe.out⟩
    · have hkk : k = t.size := by omega
      subst hkk
      rw [List.drop_eq_nil_of_le (by omega)] at hdec
      replace hdec : puGo 16 0 bs = some acc := hdec
      have HD := Lib.hid hdec
      subst ha
      clear hacc a0 a1 hdec
      go_wp2
      go_ret2
      exact ⟨by rw [HD.out]; rfl, HBe.out⟩
theorem pu_any {B : Nat} (hB : B = 10 ∨ B = 16) (t : ByteArray) (hmax : t.size ≤ 4) (w : World) :
    Calls Tryz.prog 150 #[.string t, .int .i64 B, .int .i64 32] w fun e w' => e = .returned (uTup (pu B t.data.toList)) ∧ Below w.heap.size w w' := by
  by_cases h0 : t.size = 0
  · have ht : t = ⟨#[]⟩ := by
      obtain ⟨⟨l⟩⟩ := t
      cases l with
      | nil => rfl
      | cons _ _ => simp [ByteArray.size] at h0
    subst ht
    exact pu_empty B w
  · rcases hB with rfl | rfl
    · exact pu_10 t h0 hmax w
    · exact pu_16 t h0 hmax w
end Go.Proofs.YtoagfmonfgagbaaGreatDoor
