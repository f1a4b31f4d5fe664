/-
  strings.Cut at a text of one byte; package lexer's plain, word, remark. Conditions: the texts' lengths.
-/
import Derived.Test.YtiggfoghogecjaaDoorTk18
import Derived.WalkKit
import Derived.IntWalk
import Derived.Lib.Walk
import Derived.Lib.Bytealg
import Derived.BigCall
import Derived.BigGuard
import Derived.Deep.Draws
import Derived.Laws.Strings3
import Derived.Laws.Externs
namespace Go.Proofs.YtiggfoghogecjaaDoor
open Go.RowKit
set_option maxRecDepth 100000

/-- Where the first byte 10 stands. -/
def tenAt (l : List UInt8) : Int := Lib.indexByte l 10
theorem tenAt_run {a r : List UInt8} (ha : ∀ c ∈ a, c ≠ 10) (hr : ∀ c, r.head? = some c → c = 10) : tenAt (a ++ r) = if r = [] then -1 else (a.length : Int) := by
  unfold tenAt
  induction a with
  | nil =>
    cases r with
    | nil => rfl
    | cons c r =>
      obtain rfl := hr c rfl
      rw [if_neg (by simp)]
      rfl
  | cons c a ih =>
    have hc := ha c (List.mem_cons_self ..)
    rw [List.cons_append, Lib.indexByte, if_neg (by simpa using hc), ih fun x hx => ha x (List.mem_cons_of_mem _ hx)]
    by_cases h : r = []
    · rw [if_pos h, if_pos h]; rfl
    · rw [if_neg h, if_neg h, if_neg (by simp), List.length_cons]
      omega
theorem indexB18 (s : ByteArray) (w : World) : Calls Tryd.prog 32 #[.string s, .int .u8 10] w fun e w' => e = .returned (.int .i64 (tenAt s.data.toList)) ∧ w = w' := by
  go_enter Tryd.func32, Tryd.ntmps32
  go_wp2
  rw [run_callFunc_extern Tryd.func36 (by kernel_rfl) (by kernel_rfl) (by kernel_rfl) (e := Extern.BytealgIndexByte.indexByte) (by kernel_rfl), Lib.run_indexByteString]
  simp only [Result.andThen]
  rw [Oper.upon_value]
  go_wp2
  go_ret
  exact ⟨rfl, rfl⟩
theorem index18 (s : ByteArray) (w : World) : Calls Tryd.prog 31 #[.string s, .string ⟨#[10]⟩] w fun e w' => e = .returned (.int .i64 (tenAt s.data.toList)) ∧ w = w' := by
  by_cases hs : s = ⟨#[10]⟩
  · subst hs
    go_enter Tryd.func31, Tryd.ntmps31
    go_wp2_with fail
    go_ret
    exact ⟨rfl, rfl⟩
  have hne : (([10] : List UInt8) == s.toList) = false := by
    rw [beq_eq_false_iff_ne]
    intro h
    apply hs
    rw [Lib.toList_data] at h
    rw [← mkS_back s, ← h]
    rfl
  have K := Lib.hid (indexB18 s w)
  clear hs
  go_enter Tryd.func31, Tryd.ntmps31
  go_wp2_with fail
  refine K.out.mono ?_
  rintro e w' ⟨rfl, rfl⟩
  go_wp2_with fail
  go_ret
  exact ⟨rfl, rfl⟩
/-- What stands ahead of the first byte 10. -/
theorem cutL18 (s : ByteArray) (hs : s.size ≤ 1000000) (w : World) : Calls Tryd.prog 28 #[.string s, .string ⟨#[10]⟩] w fun e w' => ∃ (x y : ByteArray) (b : Bool), e = .returned (.tuple #[.string x, .string y, .bool b]) ∧ (∀ a r, s.data.toList = a ++ r → (∀ c ∈ a, c ≠ 10) → (∀ c, r.head? = some c → c = 10) → x.size = a.length) ∧ Below w.heap.size w w' := by
  have hsz := Lib.size_eq s
  obtain ⟨a0, r0, h1, h2, h3⟩ := noteRun s.data.toList
  have huniq : ∀ a r, s.data.toList = a ++ r → (∀ c ∈ a, c ≠ 10) → (∀ c, r.head? = some c → c = 10) → a.length = a0.length := by
    intro a r e1 e2 e3
    have k1 := tenAt_run e2 e3
    have k2 := tenAt_run h2 h3
    rw [← e1] at k1
    rw [← h1] at k2
    rw [k1] at k2
    have l1 := congrArg List.length e1
    have l2 := congrArg List.length h1
    rw [List.length_append] at l1 l2
    by_cases hr : r = []
    · by_cases hr0 : r0 = []
      · subst hr hr0
        simp at l1 l2
        omega
      · rw [if_pos hr, if_neg hr0] at k2
        omega
    · by_cases hr0 : r0 = []
      · rw [if_neg hr, if_pos hr0] at k2
        omega
      · rw [if_neg hr, if_neg hr0] at k2
        omega
  have K := index18 s w
  rw [h1, tenAt_run h2 h3] at K
  have hl := congrArg List.length h1
  rw [List.length_append, ← hsz] at hl
  have HU := Lib.hid huniq
  clear huniq
  by_cases hr : r0 = []
  · rw [if_pos hr] at K
    have HK := Lib.hid K
    have hxs : s.size = a0.length := by rw [hl, hr]; rfl
    clear K hsz h1 h2 h3 hl hr
    go_enter Tryd.func28, Tryd.ntmps28
    go_wp2_with fail
    refine HK.out.mono ?_
    rintro e w' ⟨rfl, rfl⟩
    go_wp2_with fail
    refine bodyPost_ret (results_tmp3 rfl _ _ _) rfl ?_
    exact ⟨_, _, _, rfl, fun a r e1 e2 e3 => by rw [hxs, HU.out a r e1 e2 e3], Below.refl _ _⟩
  · rw [if_neg hr] at K
    have HK := Lib.hid K
    have hle : a0.length + 1 ≤ s.size := by
      have : 0 < r0.length := List.length_pos_iff.2 hr
      omega
    obtain ⟨k, hk⟩ : ∃ k, a0.length = k := ⟨_, rfl⟩
    rw [hk] at HK HU hle
    clear K hsz h1 h2 h3 hl hr hk
    go_enter Tryd.func28, Tryd.ntmps28
    go_wp2_with fail
    refine HK.out.mono ?_
    rintro e w' ⟨rfl, rfl⟩
    go_wp2_with fail
    have hS : Below w.heap.size w w.drew := (Below.refl _ _).drew
    have g0 : (0 : Int) ≤ (k : Int) := by omega
    have g1 : (k : Int) + 1 ≤ (s.size : Int) := by omega
    refine rg_begin (fun w' => Below w.heap.size w w') 12 (by kernel_rfl) rfl ?_
    have g2 : k ≤ s.size := by omega
    have g3 : IntKind.i64.wrap ((k : Int) + 1) = ((k + 1 : Nat) : Int) := by
      rw [IntKind.wrap_i64]
      omega
    refine rg_take 0 (v := ?rv1) rfl (by kernel_rfl) (by kernel_rfl) (by kernel_rfl) (fun _ _ _ h => h) (by rfl) hS (fun w2 hw2 => ?ry1) ?rr1
    case ry1 => ((try dsimp only at hw2); go_simp <;> with_reducible rfl)
    simp only [Act.put, List.setIfInBounds_toArray, List.set_cons_zero, List.set_cons_succ]
    refine rg_take 1 (v := ?rv2) rfl (by kernel_rfl) (by kernel_rfl) (by kernel_rfl) (fun _ _ _ h => h) (by rfl) hS (fun w2 hw2 => ?ry2) ?rr2
    case ry2 => ((try dsimp only at hw2); go_simp <;> with_reducible rfl)
    simp only [Act.put, List.setIfInBounds_toArray, List.set_cons_zero, List.set_cons_succ]
    refine rg_take 2 (v := .string (s.extract 0 k)) rfl (by kernel_rfl) (by kernel_rfl) (by kernel_rfl) (fun _ _ _ h => h) (by rfl) hS (fun w2 hw2 => ?ryA) ?rrA
    case ryA => ((try dsimp only at hw2); go_simp)
    simp only [Act.put, List.setIfInBounds_toArray, List.set_cons_zero, List.set_cons_succ]
    refine rg_take 3 (v := ?rv3) rfl (by kernel_rfl) (by kernel_rfl) (by kernel_rfl) (fun _ _ _ h => h) (by rfl) hS (fun w2 hw2 => ?ry3) ?rr3
    case ry3 => ((try dsimp only at hw2); go_simp <;> with_reducible rfl)
    simp only [Act.put, List.setIfInBounds_toArray, List.set_cons_zero, List.set_cons_succ]
    refine rg_take 4 (v := ?rv4) rfl (by kernel_rfl) (by kernel_rfl) (by kernel_rfl) (fun _ _ _ h => h) (by rfl) hS (fun w2 hw2 => ?ry4) ?rr4
    case ry4 => ((try dsimp only at hw2); go_simp <;> with_reducible rfl)
    simp only [Act.put, List.setIfInBounds_toArray, List.set_cons_zero, List.set_cons_succ]
    refine rg_take 5 (v := ?rv5) rfl (by kernel_rfl) (by kernel_rfl) (by kernel_rfl) (fun _ _ _ h => h) (by rfl) hS (fun w2 hw2 => ?ry5) ?rr5
    case ry5 => ((try dsimp only at hw2); go_simp <;> with_reducible rfl)
    simp only [Act.put, List.setIfInBounds_toArray, List.set_cons_zero, List.set_cons_succ]
    refine rg_take 6 (v := ?rv6) rfl (by kernel_rfl) (by kernel_rfl) (by kernel_rfl) (fun _ _ _ h => h) (by rfl) hS (fun w2 hw2 => ?ry6) ?rr6
    case ry6 => ((try dsimp only at hw2); go_simp <;> with_reducible rfl)
    simp only [Act.put, List.setIfInBounds_toArray, List.set_cons_zero, List.set_cons_succ]
    refine rg_take 7 (v := ?rv7) rfl (by kernel_rfl) (by kernel_rfl) (by kernel_rfl) (fun _ _ _ h => h) (by rfl) hS (fun w2 hw2 => ?ry7) ?rr7
    case ry7 => ((try dsimp only at hw2); go_simp <;> with_reducible rfl)
    simp only [Act.put, List.setIfInBounds_toArray, List.set_cons_zero, List.set_cons_succ]
    refine rg_take 8 (v := .string (s.extract (k + 1) s.size)) rfl (by kernel_rfl) (by kernel_rfl) (by kernel_rfl) (fun _ _ _ h => h) (by rfl) hS (fun w2 hw2 => ?ryB) ?rrB
    case ryB => ((try dsimp only at hw2); go_simp; intro h; exact absurd h (by omega))
    simp only [Act.put, List.setIfInBounds_toArray, List.set_cons_zero, List.set_cons_succ]
    refine rg_take 9 (v := ?rv8) rfl (by kernel_rfl) (by kernel_rfl) (by kernel_rfl) (fun _ _ _ h => h) (by rfl) hS (fun w2 hw2 => ?ry8) ?rr8
    case ry8 => ((try dsimp only at hw2); go_simp <;> with_reducible rfl)
    simp only [Act.put, List.setIfInBounds_toArray, List.set_cons_zero, List.set_cons_succ]
    refine rg_take 10 (v := ?rv9) rfl (by kernel_rfl) (by kernel_rfl) (by kernel_rfl) (fun _ _ _ h => h) (by rfl) hS (fun w2 hw2 => ?ry9) ?rr9
    case ry9 => ((try dsimp only at hw2); go_simp <;> with_reducible rfl)
    simp only [Act.put, List.setIfInBounds_toArray, List.set_cons_zero, List.set_cons_succ]
    refine rg_take 11 (v := ?rv10) rfl (by kernel_rfl) (by kernel_rfl) (by kernel_rfl) (fun _ _ _ h => h) (by rfl) hS (fun w2 hw2 => ?ry10) ?rr10
    case ry10 => ((try dsimp only at hw2); go_simp <;> with_reducible rfl)
    simp only [Act.put, List.setIfInBounds_toArray, List.set_cons_zero, List.set_cons_succ]
    refine rg_done (by kernel_rfl) ?_
    go_wp2_with fail
    refine bodyPost_ret (results_tmp3 rfl _ _ _) rfl ?_
    refine ⟨_, _, _, rfl, fun a r e1 e2 e3 => ?_, hS⟩
    rw [HU.out a r e1 e2 e3, Lib.size_eq, cut_piece]
    simp only [List.drop_zero, List.length_take, Nat.sub_zero]
    rw [← Lib.size_eq]
    omega
theorem cut18 (s : ByteArray) (hs : s.size ≤ 1000000) (w : World) : Calls Tryd.prog 20 #[.string s, .string ⟨#[10]⟩] w fun e w' => ∃ (x y : ByteArray) (b : Bool), e = .returned (.tuple #[.string x, .string y, .bool b]) ∧ (∀ a r, s.data.toList = a ++ r → (∀ c ∈ a, c ≠ 10) → (∀ c, r.head? = some c → c = 10) → x.size = a.length) ∧ Below w.heap.size w w' := by
  have K := Lib.hid (cutL18 s hs w)
  go_enter Tryd.func20, Tryd.ntmps20
  go_wp2_with fail
  refine K.out.mono ?_
  rintro e w' ⟨x, y, b, rfl, hx, hb⟩
  have H := Lib.hid (And.intro hx hb)
  clear hx hb
  go_wp2_with fail
  refine bodyPost_ret (results_tmp3 rfl _ _ _) rfl ?_
  exact ⟨_, _, _, rfl, H.out.1, H.out.2⟩
theorem remark18 (s : ByteArray) (hs : s.size ≤ 1000000) (w : World) : Calls Tryd.prog 12 #[.string s] w fun e w' => ∃ n : Nat, e = .returned (.int .i64 n) ∧ (∀ a r, s.data.toList = a ++ r → (∀ c ∈ a, c ≠ 10) → (∀ c, r.head? = some c → c = 10) → n = a.length) ∧ Below w.heap.size w w' := by
  have K := Lib.hid (cut18 s hs w)
  go_enter Tryd.func12, Tryd.ntmps12
  go_wp2_with fail
  refine K.out.mono ?_
  rintro e w' ⟨x, y, b, rfl, hx, hb⟩
  have H := Lib.hid (And.intro hx hb)
  clear hx hb
  go_wp2_with fail
  go_ret
  exact ⟨_, rfl, H.out.1, H.out.2⟩
theorem plain18 (c : UInt8) (w : World) : Calls Tryd.prog 21 #[.int .u8 c.toNat] w fun e w' => e = .returned (.bool (wordB c)) ∧ w = w' := by
  have e35 : (c != 35) = decide ((c.toNat : Int) ≠ 35) := by
    rw [Bool.eq_iff_iff, bne_iff_ne, decide_eq_true_iff]
    constructor
    · intro h h2
      apply h
      apply UInt8.toNat_inj.1
      have : (35 : UInt8).toNat = 35 := rfl
      omega
    · rintro h rfl
      exact h rfl
  obtain ⟨bb, hbb⟩ : ∃ bb, wordB c = bb := ⟨_, rfl⟩
  have hw : bb = (decide (33 ≤ c.toNat) && decide (c.toNat ≤ 126) && decide ((c.toNat : Int) ≠ 35)) := by rw [← hbb, ← e35]; rfl
  rw [hbb]
  have HW := Lib.hid hw
  have hlt := c.toNat_lt
  clear hw hbb e35
  obtain ⟨x, hx⟩ : ∃ x, c.toNat = x := ⟨_, rfl⟩
  rw [hx] at HW hlt ⊢
  clear hx
  rcases (show x < 33 ∨ (33 ≤ x ∧ 126 < x) ∨ (33 ≤ x ∧ x ≤ 126 ∧ x = 35) ∨ (33 ≤ x ∧ x ≤ 126 ∧ x ≠ 35) by omega) with d1 | ⟨d1, d2⟩ | ⟨d1, d2, d3⟩ | ⟨d1, d2, d3⟩
  all_goals
    go_enter Tryd.func21, Tryd.ntmps21
    go_wp2_with fail
    go_ret
    refine ⟨?_, rfl⟩
    rw [HW.out]
    show Ending.returned (Value.bool _) = _
    congr 2
    rw [Bool.eq_iff_iff]
    simp
    omega
set_option maxHeartbeats 1000000 in
theorem word18 (s : ByteArray) (hs : s.size ≤ 1000000) (w : World) : Calls Tryd.prog 13 #[.string s] w fun e w' => ∃ n : Nat, e = .returned (.int .i64 n) ∧ n ≤ s.size ∧ (∀ (j : Nat) (x : UInt8), j < n → s.data.toList[j]? = some x → wordB x = true) ∧ (∀ x, s.data.toList[n]? = some x → wordB x = false) ∧ w = w' := by
  have HL := Lib.hid (Lib.size_eq s).symm
  go_enter Tryd.func13, Tryd.ntmps13
  go_wp2_with fail
  go_loop [3] (fun i => ∃ k : Nat, k ≤ s.size ∧ i = .int .i64 k ∧ ∀ (j : Nat) (x : UInt8), j < k → s.data.toList[j]? = some x → wordB x = true) (fun i => s.size - (intOf i).toNat)
  case atStart => exact ⟨0, Nat.zero_le _, rfl, fun j x h => absurd h (by omega)⟩
  case round =>
    obtain ⟨k, hk, rfl, hall⟩ := hrel
    by_cases hlt : k < s.size
    · obtain ⟨x, hx, hsk⟩ := str_at (s := s) (i := k) hlt
      have K := Lib.hid (plain18 x w)
      have HX := Lib.hid (And.intro hx hall)
      clear hx hall
      by_cases hw : wordB x = true
      · rw [hw] at K
        have HW := Lib.hid hw
        clear hw
        go_wp2_with fail
        refine K.out.mono ?_
        rintro e w' ⟨rfl, rfl⟩
        go_wp2_with fail
        go_round
        case rel =>
          refine ⟨k + 1, hlt, by go_num, fun j y hj hy => ?_⟩
          by_cases hjk : j = k
          · subst hjk
            rw [HX.out.1] at hy
            obtain rfl := Option.some.inj hy
            exact HW.out
          · exact HX.out.2 j y (by omega) hy
        case measure => simp [intOf]; omega
      · rw [Bool.eq_false_iff.2 hw] at K
        have HW := Lib.hid (Bool.eq_false_iff.2 hw)
        clear hw
        go_wp2_with fail
        refine K.out.mono ?_
        rintro e w' ⟨rfl, rfl⟩
        go_wp2_with fail
        go_ret
        refine ⟨k, rfl, hk, HX.out.2, fun y hy => ?_, rfl⟩
        rw [HX.out.1] at hy
        obtain rfl := Option.some.inj hy
        exact HW.out
    · obtain rfl : k = s.size := by omega
      have HX := Lib.hid hall
      clear hall
      go_wp2_with fail
      go_ret
      refine ⟨s.size, rfl, Nat.le_refl _, fun j x hj hx => HX.out j x hj (by simpa using hx), fun y hy => ?_, rfl⟩
      simp at hy
end Go.Proofs.YtiggfoghogecjaaDoor
