/-
  
-/
import Derived.Test.YtoagfmonfgagbaaGreatDoorZ10
import Derived.Test.YtoagfmonfgagbaaGreatDoorZ12
import Derived.Test.YtoagfmonfgagbaaGreatDoorZ13
namespace Go.Proofs.YtoagfmonfgagbaaGreatDoor
open Go.RowKit
set_option maxRecDepth 100000
inductive Bad (w : World) : Value → Prop
  | num : Bad w (.iface 37 (.int .i64 16))
  | lib (N : Nat) (fn s : ByteArray) (p : Addr) : w.heap[N]? = some (.cells #[.string fn, .string s, .iface 238 (.pointer (some p))] 234 (0, 0)) → Bad w (.iface 226 (.pointer (some ⟨N, 0, none⟩)))
theorem Bad.later {w w' : World} {v : Value} (h : Bad w v) {B : Nat} (hb : Below B w w') (hB : w.heap.size ≤ B) : Bad w' v := by
  cases h with
  | num => exact .num
  | lib N fn s p h => exact .lib N fn s p ((hb.block N (by have := (Array.getElem?_eq_some_iff.1 h).1; omega)).trans h)
theorem Bad.held {w : World} {v : Value} (h : Bad w v) : ∃ T x, v = .iface T x := by cases h <;> exact ⟨_, _, rfl⟩
def Num (r : Option Nat) (w : World) (e : Ending) (w' : World) : Prop :=
  Below w.heap.size w w' ∧ match r with
    | some n => e = .returned (.tuple #[.int .i64 n, .nilIface])
    | none => ∃ er, e = .returned (.tuple #[.int .i64 0, er]) ∧ Bad w' er
theorem Num.form {r : Option Nat} {w w' : World} {e : Ending} (h : Num r w e w') : ∃ (v : Int) (er : Value), e = .returned (.tuple #[.int .i64 v, er]) ∧ Num r w (.returned (.tuple #[.int .i64 v, er])) w' := by
  cases r with
  | some n => obtain ⟨b, rfl⟩ := h; exact ⟨_, _, rfl, b, rfl⟩
  | none => obtain ⟨b, er, rfl, d⟩ := h; exact ⟨_, _, rfl, b, _, rfl, d⟩
def Pub (r : Option Nat) (w : World) (e : Ending) (w' : World) : Prop :=
  Below w.heap.size w w' ∧ match r with
    | some n => e = .returned (.tuple #[.int .u64 n, .nilIface])
    | none => ∃ er, e = .returned (.tuple #[.int .u64 0, er]) ∧ Bad w' er
theorem pub_any {B : Nat} (hB : B = 10 ∨ B = 16) (t : ByteArray) (hmax : t.size ≤ 4) {w : World} (hE : Env w) :
    Calls Tryz.prog 130 #[.string t, .int .i64 B, .int .i64 32] w (Pub (pu B t.data.toList) w) := by
  have k1 := pu_any hB t hmax w
  obtain ⟨p, hp⟩ := hE.syn
  have k2 : ∀ w1, Below w.heap.size w w1 → Calls Tryz.prog 151 #[.string ⟨#[80, 97, 114, 115, 101, 85, 105, 110, 116]⟩, .string t, .int .i64 B, .int .i64 32, .iface 224 (.int .i64 2)] w1 fun e w' => ∃ N, e = .returned (.iface 226 (.pointer (some ⟨N, 0, none⟩))) ∧ Below w.heap.size w w' ∧ Bad w' (.iface 226 (.pointer (some ⟨N, 0, none⟩))) := fun w1 hb =>
    (Tryz.strconv_toError_syntax ⟨#[80, 97, 114, 115, 101, 85, 105, 110, 116]⟩ t B 32 _ w1 (by omega) ((hb.cell (p := ⟨6, 0, none⟩) (by exact lt_cell hp)).trans hp) (.inr ⟨_, _, rfl⟩)).mono fun e w' ⟨N, he, _, hN, hbb⟩ =>
      ⟨N, he, hb.trans (hbb.mono hb.size), .lib N _ _ p hN⟩
  have K2 := Lib.hid k2
  clear k2 hp hE
  cases hr : pu B t.data.toList with
  | some n =>
    rw [hr] at k1
    have K1 := Lib.hid k1
    clear k1 hr
    go_enter Tryz.func130, Tryz.ntmps130
    go_wp2_with fail
    refine K1.out.mono ?_
    rintro e w1 ⟨rfl, b1⟩
    simp only [uTup]
    have H1 := Lib.hid b1
    clear b1
    go_wp2_with fail
    go_ret2
    exact ⟨H1.out, rfl⟩
  | none =>
    rw [hr] at k1
    have K1 := Lib.hid k1
    clear k1 hr
    go_enter Tryz.func130, Tryz.ntmps130
    go_wp2_with fail
    refine K1.out.mono ?_
    rintro e w1 ⟨rfl, b1⟩
    simp only [uTup]
    have H1 := Lib.hid b1
    clear b1
    go_wp2_with fail
    refine (K2.out w1 H1.out).mono ?_
    rintro e w2 ⟨N, rfl, b2, d2⟩
    have H2 := Lib.hid (And.intro b2 d2)
    clear b2 d2
    go_wp2_with fail
    go_ret2
    exact ⟨H2.out.1, _, rfl, H2.out.2⟩
theorem number_any {B k : Nat} (hB : B = 10 ∨ B = 16) (hk : k ≤ 4) (t : ByteArray) (hm : t.size ≤ maxLen) {w : World} (hE : Env w) :
    Calls Tryz.prog 161 #[.string t, .int .i64 B, .int .i64 k] w (Num (numv B k t.data.toList) w) := by
  unfold maxLen at hm
  have hl : t.data.toList.length = t.size := by rw [Lib.size_eq]
  unfold numv
  rw [hl]
  by_cases hlt : k < t.size
  · rw [if_pos hlt]
    clear hl
    go_enter Tryz.func161, Tryz.ntmps161
    go_wp2
    go_ret2
    exact ⟨Below.refl _ _, _, rfl, .num⟩
  · rw [if_neg hlt]
    have k1 := pub_any hB t (by omega) hE
    clear hl hE
    cases hr : pu B t.data.toList with
    | some n =>
      have hn : n < 65536 := by
        have h1 := pu_lt (by omega) hr
        have h2 : B ^ t.data.toList.length ≤ 16 ^ 4 := Nat.le_trans (Nat.pow_le_pow_left (by omega) _) (Nat.pow_le_pow_right (by omega) (by rw [Lib.size_eq] at hlt; omega))
        omega
      rw [hr] at k1
      have K1 := Lib.hid k1
      clear k1 hr
      go_enter Tryz.func161, Tryz.ntmps161
      go_wp2_with fail
      refine K1.out.mono ?_
      rintro e w1 ⟨b1, rfl⟩
      have H1 := Lib.hid b1
      clear b1
      go_wp2_with fail
      go_ret2
      exact ⟨H1.out, rfl⟩
    | none =>
      rw [hr] at k1
      have K1 := Lib.hid k1
      clear k1 hr
      go_enter Tryz.func161, Tryz.ntmps161
      go_wp2_with fail
      refine K1.out.mono ?_
      rintro e w1 ⟨b1, er, rfl, d1⟩
      have H1 := Lib.hid (And.intro b1 d1)
      clear b1 d1
      go_wp2_with fail
      go_ret2
      exact ⟨H1.out.1, _, rfl, H1.out.2⟩
theorem group_any (t : ByteArray) (hm : t.size ≤ maxLen) {w : World} (hE : Env w) : Calls Tryz.prog 155 #[.string t] w (Num (groupv t.data.toList) w) := by
  have K1 := Lib.hid (number_any (B := 16) (k := 4) (.inr rfl) (by omega) t hm hE)
  clear hE hm
  go_enter Tryz.func155, Tryz.ntmps155
  go_wp2_with fail
  refine K1.out.mono ?_
  intro e w1 h1
  obtain ⟨v, er, rfl, h1⟩ := h1.form
  have H1 := Lib.hid h1
  clear h1
  go_wp2_with fail
  go_ret2
  exact H1.out
theorem head_at (t : ByteArray) (h : 0 < t.size) : t.data.toList.head? = some (t[0]'h) := by
  rw [List.head?_eq_getElem?]
  have : 0 < t.data.toList.length := by rw [← Lib.size_eq]; exact h
  rw [List.getElem?_eq_getElem this]
  rfl
theorem decimal_any (t : ByteArray) (hm : t.size ≤ maxLen) {w : World} (hE : Env w) : Calls Tryz.prog 149 #[.string t] w (Num (decv t.data.toList) w) := by
  have K1 := Lib.hid (number_any (B := 10) (k := 3) (.inl rfl) (by omega) t hm hE)
  have hl : t.data.toList.length = t.size := by rw [Lib.size_eq]
  unfold maxLen at hm
  unfold decv
  rw [hl]
  clear hE hl
  by_cases h1 : 1 < t.size
  · have hh := head_at t (by omega)
    have h1i : (1 : Int) < t.size := by omega
    by_cases h2 : (t[0]'(by omega)).toNat = 48
    · have h3 : t[0]'(by omega) = 48 := UInt8.toNat_inj.1 (by simpa using h2)
      have h4 : ((t[0]'(by omega)).toNat : Int) = 48 := by omega
      rw [hh, h3, if_pos ⟨h1, rfl⟩]
      have hb : (((t[0]'(by omega)).toNat : Int) == 48) = true := by simp [h4]
      clear hh h2 h3 h4
      go_enter Tryz.func149, Tryz.ntmps149
      go_wp2_with fail
      go_ret2
      exact ⟨Below.refl _ _, _, rfl, .num⟩
    · have h3 : ¬ t[0]'(by omega) = 48 := fun e => h2 (by rw [e]; rfl)
      have hb : (((t[0]'(by omega)).toNat : Int) == 48) = false := by simp; omega
      rw [hh, if_neg (fun e => h3 (Option.some.inj e.2))]
      clear hh h2 h3
      go_enter Tryz.func149, Tryz.ntmps149
      go_wp2_with fail
      refine K1.out.mono ?_
      intro e w1 h1
      obtain ⟨v, er, rfl, h1⟩ := h1.form
      have H1 := Lib.hid h1
      clear h1
      go_wp2_with fail
      go_ret2
      exact H1.out
  · rw [if_neg (fun e => h1 e.1)]
    have h1i : ¬ (1 : Int) < t.size := by omega
    go_enter Tryz.func149, Tryz.ntmps149
    go_wp2_with fail
    refine K1.out.mono ?_
    intro e w1 h1
    obtain ⟨v, er, rfl, h1⟩ := h1.form
    have H1 := Lib.hid h1
    clear h1
    go_wp2_with fail
    go_ret2
    exact H1.out
theorem octet_any (t : ByteArray) (hm : t.size ≤ maxLen) {w : World} (hE : Env w) : Calls Tryz.prog 140 #[.string t] w (Num (octetv t.data.toList) w) := by
  have K1 := Lib.hid (decimal_any t hm hE)
  clear hE hm
  unfold octetv
  cases hr : decv t.data.toList with
  | some n =>
    rw [hr] at K1
    have hn := decv_lt hr
    by_cases h : 255 < n
    · have hi : (255 : Int) < n := by omega
      simp only [Option.bind_some, if_pos h]
      clear h hr
      go_enter Tryz.func140, Tryz.ntmps140
      go_wp2_with fail
      refine K1.out.mono ?_
      rintro e w1 ⟨b1, rfl⟩
      have H1 := Lib.hid b1
      clear b1
      go_wp2_with fail
      go_ret2
      exact ⟨H1.out, _, rfl, .num⟩
    · have hi : ¬ (255 : Int) < n := by omega
      simp only [Option.bind_some, if_neg h]
      clear h hr
      go_enter Tryz.func140, Tryz.ntmps140
      go_wp2_with fail
      refine K1.out.mono ?_
      rintro e w1 ⟨b1, rfl⟩
      have H1 := Lib.hid b1
      clear b1
      go_wp2_with fail
      go_ret2
      exact ⟨H1.out, rfl⟩
  | none =>
    rw [hr] at K1
    simp only [Option.bind_none]
    clear hr
    go_enter Tryz.func140, Tryz.ntmps140
    go_wp2_with fail
    refine K1.out.mono ?_
    rintro e w1 ⟨b1, er, rfl, d1⟩
    have H1 := Lib.hid (And.intro b1 d1)
    clear b1 d1
    go_wp2_with fail
    go_ret2
    exact ⟨H1.out.1, _, rfl, H1.out.2⟩
end Go.Proofs.YtoagfmonfgagbaaGreatDoor
