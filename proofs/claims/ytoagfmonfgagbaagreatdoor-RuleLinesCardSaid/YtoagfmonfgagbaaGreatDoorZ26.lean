/-
  
-/
import Derived.Test.YtoagfmonfgagbaaGreatDoorZ25
import Derived.WalkKit
import Derived.IntWalk
import Derived.Lib.Walk
import Derived.Lib.Bytealg
import Derived.BigCall
import Derived.BigGuard
import Derived.Deep.Draws
import Derived.Laws.Strings3
import Derived.Laws.Externs
namespace Go.Proofs.YtoagfmonfgagbaaGreatDoor
open Go.RowKit
set_option maxRecDepth 100000
def tenAt (l : List UInt8) : Int := Lib.indexByte l 10
theorem tenAt_run {a r : List UInt8} (ha : ∀ c ∈ a, c ≠ 10) (hr : ∀ c, r.head? = some c → c = 10) : tenAt (a ++ r) = if r = [] then -1 else (a.length : Int) := by
  unfold tenAt
  induction a with
  | nil =>
    cases r with
    | nil => rfl
    | cons c r =>
      obtain rfl := hr c rfl
      rw [if_neg (by simp)]
      rfl
  | cons c a ih =>
    have hc := ha c (List.mem_cons_self ..)
    rw [List.cons_append, Lib.indexByte, if_neg (by simpa using hc), ih fun x hx => ha x (List.mem_cons_of_mem _ hx)]
    by_cases h : r = []
    · rw [if_pos h, if_pos h]; rfl
    · rw [if_neg h, if_neg h, if_neg (by simp), List.length_cons]
      omega
theorem indexB18 (s : ByteArray) (w : World) : Calls Tryz.prog 114 #[.string s, .int .u8 10] w fun e w' => e = .returned (.int .i64 (tenAt s.data.toList)) ∧ w = w' := by
  go_enter Tryz.func114, Tryz.ntmps114
  go_wp2
  rw [run_callFunc_extern Tryz.func131 (by kernel_rfl) (by kernel_rfl) (by kernel_rfl) (e := Extern.BytealgIndexByte.indexByte) (by kernel_rfl), Lib.run_indexByteString]
  simp only [Result.andThen]
  rw [Oper.upon_value]
  go_wp2
  go_ret
  exact ⟨rfl, rfl⟩
theorem index18 (s : ByteArray) (w : World) : Calls Tryz.prog 105 #[.string s, .string ⟨#[10]⟩] w fun e w' => e = .returned (.int .i64 (tenAt s.data.toList)) ∧ w = w' := by
  by_cases hs : s = ⟨#[10]⟩
  · subst hs
    go_enter Tryz.func105, Tryz.ntmps105
    go_wp2_with fail
    go_ret
    exact ⟨rfl, rfl⟩
  have hne : (([10] : List UInt8) == s.toList) = false := by
    rw [beq_eq_false_iff_ne]
    intro h
    apply hs
    rw [Lib.toList_data] at h
    rw [← mkS_back s, ← h]
    rfl
  have K := Lib.hid (indexB18 s w)
  clear hs
  go_enter Tryz.func105, Tryz.ntmps105
  go_wp2_with fail
  refine K.out.mono ?_
  rintro e w' ⟨rfl, rfl⟩
  go_wp2_with fail
  go_ret
  exact ⟨rfl, rfl⟩
theorem cutL18 (s : ByteArray) (hs : s.size ≤ 1000000) (w : World) : Calls Tryz.prog 85 #[.string s, .string ⟨#[10]⟩] w fun e w' => ∃ (x y : ByteArray) (b : Bool), e = .returned (.tuple #[.string x, .string y, .bool b]) ∧ (∀ a r, s.data.toList = a ++ r → (∀ c ∈ a, c ≠ 10) → (∀ c, r.head? = some c → c = 10) → x.size = a.length) ∧ Below w.heap.size w w' := by
  have hsz := Lib.size_eq s
  obtain ⟨a0, r0, h1, h2, h3⟩ := noteRun s.data.toList
  have huniq : ∀ a r, s.data.toList = a ++ r → (∀ c ∈ a, c ≠ 10) → (∀ c, r.head? = some c → c = 10) → a.length = a0.length := by
    intro a r e1 e2 e3
    have k1 := tenAt_run e2 e3
    have k2 := tenAt_run h2 h3
    rw [← e1] at k1
    rw [← h1] at k2
    rw [k1] at k2
    have l1 := congrArg List.length e1
    have l2 := congrArg List.length h1
    rw [List.length_append] at l1 l2
    by_cases hr : r = []
    · by_cases hr0 : r0 = []
      · subst hr hr0
        simp at l1 l2
        omega
      · rw [if_pos hr, if_neg hr0] at k2
        omega
    · by_cases hr0 : r0 = []
      · rw [if_neg hr, if_pos hr0] at k2
        omega
      · rw [if_neg hr, if_neg hr0] at k2
        omega
  have K := index18 s w
  rw [h1, tenAt_run h2 h3] at K
  have hl := congrArg List.length h1
  rw [List.length_append, ← hsz] at hl
  have HU := Lib.hid huniq
  clear huniq
  by_cases hr : r0 = []
  · rw [if_pos hr] at K
    have HK := Lib.hid K
    have hxs : s.size = a0.length := by rw [hl, hr]; rfl
    clear K hsz h1 h2 h3 hl hr
    go_enter Tryz.func85, Tryz.ntmps85
    go_wp2_with fail
    refine HK.out.mono ?_
    rintro e w' ⟨rfl, rfl⟩
    go_wp2_with fail
    refine bodyPost_ret (results_tmp3 rfl _ _ _) rfl ?_
    exact ⟨_, _, _, rfl, fun a r e1 e2 e3 => by rw [hxs, HU.out a r e1 e2 e3], Below.refl _ _⟩
  · rw [if_neg hr] at K
    have HK := Lib.hid K
    have hle : a0.length + 1 ≤ s.size := by
      have : 0 < r0.length := List.length_pos_iff.2 hr
      omega
    obtain ⟨k, hk⟩ : ∃ k, a0.length = k := ⟨_, rfl⟩
    rw [hk] at HK HU hle
    clear K hsz h1 h2 h3 hl hr hk
    go_enter Tryz.func85, Tryz.ntmps85
    go_wp2_with fail
    refine HK.out.mono ?_
    rintro e w' ⟨rfl, rfl⟩
    go_wp2_with fail
    have hS : Below w.heap.size w w.drew := (Below.refl _ _).drew
    have g0 : (0 : Int) ≤ (k : Int) := by omega
    have g1 : (k : Int) + 1 ≤ (s.size : Int) := by omega
    refine rg_begin (fun w' => Below w.heap.size w w') 12 (by kernel_rfl) rfl ?_
    have g2 : k ≤ s.size := by omega
    have g3 : IntKind.i64.wrap ((k : Int) + 1) = ((k + 1 : Nat) : Int) := by
      rw [IntKind.wrap_i64]
      omega
    refine rg_take 0 (v := ?rv1) rfl (by kernel_rfl) (by kernel_rfl) (by kernel_rfl) (fun _ _ _ h => h) (by rfl) hS (fun w2 hw2 => ?ry1) ?rr1
    case ry1 => ((try dsimp only at hw2); go_simp <;> with_reducible rfl)
    simp only [Act.put, List.setIfInBounds_toArray, List.set_cons_zero, List.set_cons_succ]
    refine rg_take 1 (v := ?rv2) rfl (by kernel_rfl) (by kernel_rfl) (by kernel_rfl) (fun _ _ _ h => h) (by rfl) hS (fun w2 hw2 => ?ry2) ?rr2
    case ry2 => ((try dsimp only at hw2); go_simp <;> with_reducible rfl)
    simp only [Act.put, List.setIfInBounds_toArray, List.set_cons_zero, List.set_cons_succ]
    refine rg_take 2 (v := .string (s.extract 0 k)) rfl (by kernel_rfl) (by kernel_rfl) (by kernel_rfl) (fun _ _ _ h => h) (by rfl) hS (fun w2 hw2 => ?ryA) ?rrA
    case ryA => ((try dsimp only at hw2); go_simp)
    simp only [Act.put, List.setIfInBounds_toArray, List.set_cons_zero, List.set_cons_succ]
    refine rg_take 3 (v := ?rv3) rfl (by kernel_rfl) (by kernel_rfl) (by kernel_rfl) (fun _ _ _ h => h) (by rfl) hS (fun w2 hw2 => ?ry3) ?rr3
    case ry3 => ((try dsimp only at hw2); go_simp <;> with_reducible rfl)
    simp only [Act.put, List.setIfInBounds_toArray, List.set_cons_zero, List.set_cons_succ]
    refine rg_take 4 (v := ?rv4) rfl (by kernel_rfl) (by kernel_rfl) (by kernel_rfl) (fun _ _ _ h => h) (by rfl) hS (fun w2 hw2 => ?ry4) ?rr4
    case ry4 => ((try dsimp only at hw2); go_simp <;> with_reducible rfl)
    simp only [Act.put, List.setIfInBounds_toArray, List.set_cons_zero, List.set_cons_succ]
    refine rg_take 5 (v := ?rv5) rfl (by kernel_rfl) (by kernel_rfl) (by kernel_rfl) (fun _ _ _ h => h) (by rfl) hS (fun w2 hw2 => ?ry5) ?rr5
    case ry5 => ((try dsimp only at hw2); go_simp <;> with_reducible rfl)
    simp only [Act.put, List.setIfInBounds_toArray, List.set_cons_zero, List.set_cons_succ]
    refine rg_take 6 (v := ?rv6) rfl (by kernel_rfl) (by kernel_rfl) (by kernel_rfl) (fun _ _ _ h => h) (by rfl) hS (fun w2 hw2 => ?ry6) ?rr6
    case ry6 => ((try dsimp only at hw2); go_simp <;> with_reducible rfl)
    simp only [Act.put, List.setIfInBounds_toArray, List.set_cons_zero, List.set_cons_succ]
    refine rg_take 7 (v := ?rv7) rfl (by kernel_rfl) (by kernel_rfl) (by kernel_rfl) (fun _ _ _ h => h) (by rfl) hS (fun w2 hw2 => ?ry7) ?rr7
    case ry7 => ((try dsimp only at hw2); go_simp <;> with_reducible rfl)
    simp only [Act.put, List.setIfInBounds_toArray, List.set_cons_zero, List.set_cons_succ]
    refine rg_take 8 (v := .string (s.extract (k + 1) s.size)) rfl (by kernel_rfl) (by kernel_rfl) (by kernel_rfl) (fun _ _ _ h => h) (by rfl) hS (fun w2 hw2 => ?ryB) ?rrB
    case ryB => ((try dsimp only at hw2); go_simp; intro h; exact absurd h (by omega))
    simp only [Act.put, List.setIfInBounds_toArray, List.set_cons_zero, List.set_cons_succ]
    refine rg_take 9 (v := ?rv8) rfl (by kernel_rfl) (by kernel_rfl) (by kernel_rfl) (fun _ _ _ h => h) (by rfl) hS (fun w2 hw2 => ?ry8) ?rr8
    case ry8 => ((try dsimp only at hw2); go_simp <;> with_reducible rfl)
    simp only [Act.put, List.setIfInBounds_toArray, List.set_cons_zero, List.set_cons_succ]
    refine rg_take 10 (v := ?rv9) rfl (by kernel_rfl) (by kernel_rfl) (by kernel_rfl) (fun _ _ _ h => h) (by rfl) hS (fun w2 hw2 => ?ry9) ?rr9
    case ry9 => ((try dsimp only at hw2); go_simp <;> with_reducible rfl)
    simp only [Act.put, List.setIfInBounds_toArray, List.set_cons_zero, List.set_cons_succ]
    refine rg_take 11 (v := ?rv10) rfl (by kernel_rfl) (by kernel_rfl) (by kernel_rfl) (fun _ _ _ h => h) (by rfl) hS (fun w2 hw2 => ?ry10) ?rr10
    case ry10 => ((try dsimp only at hw2); go_simp <;> with_reducible rfl)
    simp only [Act.put, List.setIfInBounds_toArray, List.set_cons_zero, List.set_cons_succ]
    refine rg_done (by kernel_rfl) ?_
    go_wp2_with fail
    refine bodyPost_ret (results_tmp3 rfl _ _ _) rfl ?_
    refine ⟨_, _, _, rfl, fun a r e1 e2 e3 => ?_, hS⟩
    rw [HU.out a r e1 e2 e3, Lib.size_eq, cut_piece]
    simp only [List.drop_zero, List.length_take, Nat.sub_zero]
    rw [← Lib.size_eq]
    omega
theorem cut18 (s : ByteArray) (hs : s.size ≤ 1000000) (w : World) : Calls Tryz.prog 66 #[.string s, .string ⟨#[10]⟩] w fun e w' => ∃ (x y : ByteArray) (b : Bool), e = .returned (.tuple #[.string x, .string y, .bool b]) ∧ (∀ a r, s.data.toList = a ++ r → (∀ c ∈ a, c ≠ 10) → (∀ c, r.head? = some c → c = 10) → x.size = a.length) ∧ Below w.heap.size w w' := by
  have K := Lib.hid (cutL18 s hs w)
  go_enter Tryz.func66, Tryz.ntmps66
  go_wp2_with fail
  refine K.out.mono ?_
  rintro e w' ⟨x, y, b, rfl, hx, hb⟩
  have H := Lib.hid (And.intro hx hb)
  clear hx hb
  go_wp2_with fail
  refine bodyPost_ret (results_tmp3 rfl _ _ _) rfl ?_
  exact ⟨_, _, _, rfl, H.out.1, H.out.2⟩
theorem remark18 (s : ByteArray) (hs : s.size ≤ 1000000) (w : World) : Calls Tryz.prog 41 #[.string s] w fun e w' => ∃ n : Nat, e = .returned (.int .i64 n) ∧ (∀ a r, s.data.toList = a ++ r → (∀ c ∈ a, c ≠ 10) → (∀ c, r.head? = some c → c = 10) → n = a.length) ∧ Below w.heap.size w w' := by
  have K := Lib.hid (cut18 s hs w)
  go_enter Tryz.func41, Tryz.ntmps41
  go_wp2_with fail
  refine K.out.mono ?_
  rintro e w' ⟨x, y, b, rfl, hx, hb⟩
  have H := Lib.hid (And.intro hx hb)
  clear hx hb
  go_wp2_with fail
  go_ret
  exact ⟨_, rfl, H.out.1, H.out.2⟩
theorem plain18 (c : UInt8) (w : World) : Calls Tryz.prog 67 #[.int .u8 c.toNat] w fun e w' => e = .returned (.bool (wordB c)) ∧ w = w' := by
  have e35 : (c != 35) = decide ((c.toNat : Int) ≠ 35) := by
    rw [Bool.eq_iff_iff, bne_iff_ne, decide_eq_true_iff]
    constructor
    · intro h h2
      apply h
      apply UInt8.toNat_inj.1
      have : (35 : UInt8).toNat = 35 := rfl
      omega
    · rintro h rfl
      exact h rfl
  obtain ⟨bb, hbb⟩ : ∃ bb, wordB c = bb := ⟨_, rfl⟩
  have hw : bb = (decide (33 ≤ c.toNat) && decide (c.toNat ≤ 126) && decide ((c.toNat : Int) ≠ 35)) := by rw [← hbb, ← e35]; rfl
  rw [hbb]
  have HW := Lib.hid hw
  have hlt := c.toNat_lt
  clear hw hbb e35
  obtain ⟨x, hx⟩ : ∃ x, c.toNat = x := ⟨_, rfl⟩
  rw [hx] at HW hlt ⊢
  clear hx
  rcases (show x < 33 ∨ (33 ≤ x ∧ 126 < x) ∨ (33 ≤ x ∧ x ≤ 126 ∧ x = 35) ∨ (33 ≤ x ∧ x ≤ 126 ∧ x ≠ 35) by omega) with d1 | ⟨d1, d2⟩ | ⟨d1, d2, d3⟩ | ⟨d1, d2, d3⟩
  all_goals
    go_enter Tryz.func67, Tryz.ntmps67
    go_wp2_with fail
    go_ret
    refine ⟨?_, rfl⟩
    rw [HW.out]
    show Ending.returned (Value.bool _) = _
    congr 2
    rw [Bool.eq_iff_iff]
    simp
    omega
set_option maxHeartbeats 1000000 in
theorem word18 (s : ByteArray) (hs : s.size ≤ 1000000) (w : World) : Calls Tryz.prog 42 #[.string s] w fun e w' => ∃ n : Nat, e = .returned (.int .i64 n) ∧ n ≤ s.size ∧ (∀ (j : Nat) (x : UInt8), j < n → s.data.toList[j]? = some x → wordB x = true) ∧ (∀ x, s.data.toList[n]? = some x → wordB x = false) ∧ w = w' := by
  have HL := Lib.hid (Lib.size_eq s).symm
  go_enter Tryz.func42, Tryz.ntmps42
  go_wp2_with fail
  go_loop [3] (fun i => ∃ k : Nat, k ≤ s.size ∧ i = .int .i64 k ∧ ∀ (j : Nat) (x : UInt8), j < k → s.data.toList[j]? = some x → wordB x = true) (fun i => s.size - (intOf i).toNat)
  case atStart => exact ⟨0, Nat.zero_le _, rfl, fun j x h => absurd h (by omega)⟩
  case round =>
    obtain ⟨k, hk, rfl, hall⟩ := hrel
    by_cases hlt : k < s.size
    · obtain ⟨x, hx, hsk⟩ := str_at (s := s) (i := k) hlt
      have K := Lib.hid (plain18 x w)
      have HX := Lib.hid (And.intro hx hall)
      clear hx hall
      by_cases hw : wordB x = true
      · rw [hw] at K
        have HW := Lib.hid hw
        clear hw
        go_wp2_with fail
        refine K.out.mono ?_
        rintro e w' ⟨rfl, rfl⟩
        go_wp2_with fail
        go_round
        case rel =>
          refine ⟨k + 1, hlt, by go_num, fun j y hj hy => ?_⟩
          by_cases hjk : j = k
          · subst hjk
            rw [HX.out.1] at hy
            obtain rfl := Option.some.inj hy
            exact HW.out
          · exact HX.out.2 j y (by omega) hy
        case measure => simp [intOf]; omega
      · rw [Bool.eq_false_iff.2 hw] at K
        have HW := Lib.hid (Bool.eq_false_iff.2 hw)
        clear hw
        go_wp2_with fail
        refine K.out.mono ?_
        rintro e w' ⟨rfl, rfl⟩
        go_wp2_with fail
        go_ret
        refine ⟨k, rfl, hk, HX.out.2, fun y hy => ?_, rfl⟩
        rw [HX.out.1] at hy
        obtain rfl := Option.some.inj hy
        exact HW.out
    · obtain rfl : k = s.size := by omega
      have HX := Lib.hid hall
      clear hall
      go_wp2_with fail
      go_ret
      refine ⟨s.size, rfl, Nat.le_refl _, fun j x hj hx => HX.out j x hj (by simpa using hx), fun y hy => ?_, rfl⟩
      simp at hy
end Go.Proofs.YtoagfmonfgagbaaGreatDoor

namespace Go.Proofs.YtoagfmonfgagbaaGreatDoor
open Go.RowKit
set_option maxRecDepth 100000
def ErrAt (w : World) (v : Value) (p : Nat) : Prop := ∃ g, v = .iface 84 (.pointer (some ⟨g, 0, none⟩)) ∧ w.heap[g]? = some (.cells #[.int .i64 p, .iface 37 (.int .i64 21)] 90 (0, 0))
theorem ErrAt.later {w w' : World} {B : Nat} {v : Value} {p : Nat} (h : ErrAt w v p) (hb : Below B w w') (hB : w.heap.size ≤ B) : ErrAt w' v p := by
  obtain ⟨g, e, hg⟩ := h
  exact ⟨g, e, (hb.block g (Nat.lt_of_lt_of_le (Array.getElem?_eq_some_iff.1 hg).1 hB)).trans hg⟩
theorem wrap18 (at_ : Int) (T : TypeId) (x : Value) (w : World) : Calls Tryz.prog 43 #[.int .i64 at_, .iface T x] w fun e w' =>
    e = .returned (.iface 84 (.pointer (some ⟨w.heap.size, 0, none⟩))) ∧ w.alloc (.cells #[.int .i64 at_, .iface T x] 90) = w' := by
  go_enter Tryz.func43, Tryz.ntmps43
  go_wp2
  go_ret
  exact ⟨rfl, rfl⟩
def TokR (b : Nat) (w' : World) : Sum Nat (List Tk) → Value → Prop
  | .inl p, v => ∃ e, v = .tuple #[.slice none 0 0, e] ∧ ErrAt w' e p
  | .inr ts, v => ∃ r, v = .tuple #[r, .nilIface] ∧ TkO w' b r ts
theorem sub18 {s : ByteArray} {k : Nat} : (s.extract k s.size).data.toList = s.data.toList.drop k := by
  rw [cut_piece, Lib.size_eq, List.take_of_length_le]
  rw [List.length_drop]
  omega
theorem sub18_size (s : ByteArray) (k : Nat) : (s.extract k s.size).size = s.size - k := by
  rw [Lib.size_eq, sub18, List.length_drop, ← Lib.size_eq]
set_option maxHeartbeats 4000000 in
theorem tokens18 (s : ByteArray) (hs : s.size ≤ 20000) (w : World) : Calls Tryz.prog 23 #[.string s] w fun e w' => ∃ v, e = .returned v ∧ TokR w.heap.size w' (lexM .gap 0 1 s.data.toList) v ∧ Below w.heap.size w w' := by
  have HL := Lib.hid (Lib.size_eq s).symm
  obtain ⟨R, hR⟩ : ∃ R, lexM .gap 0 1 s.data.toList = R := ⟨_, rfl⟩
  rw [hR]
  have hR0 : R = joinR [] (lexM .gap 0 1 (s.data.toList.drop 0)) := by rw [joinR_nil, ← hR]; rfl
  have HR := Lib.hid hR0
  clear hR hR0
  go_enter Tryz.func23, Tryz.ntmps23
  go_wp2_with fail
  go_loopw [4, 5, 6] (fun v i r wr => ∃ (k row : Nat) (xs : List Tk), k ≤ s.size ∧ i = .int .i64 k ∧ r = .int .i64 row ∧ row ≤ k + 1 ∧ Hid (TkO wr w.heap.size v xs ∧ xs.length ≤ k ∧ R = joinR xs (lexM .gap k row (s.data.toList.drop k)) ∧ Below w.heap.size w wr)) (fun _ i _ _ => s.size - (intOf i).toNat)
  case atStart => exact ⟨0, 1, [], Nat.zero_le _, rfl, rfl, by omega, ⟨TkO.nil _ _, Nat.zero_le _, HR.out, Below.refl _ _⟩⟩
  case round =>
    obtain ⟨k, row, xs, hk, rfl, rfl, hrow, HX⟩ := hrel
    by_cases hlt : k < s.size
    · obtain ⟨x, hx, hsk⟩ := str_at (s := s) (i := k) hlt
      have hd := drop_at hx
      have hxl := x.toNat_lt
      have hne : ∀ c : UInt8, x ≠ c → ((x.toNat : Int) == (c.toNat : Int)) = false := fun c h => by
        rw [beq_eq_false_iff_ne]
        intro h2
        exact h (UInt8.toNat_inj.1 (by omega))
      have HN := Lib.hid hne
      have HD := Lib.hid (And.intro hx hd)
      clear hne hx hd
      by_cases h10 : x = 10
      · have e10 : ((x.toNat : Int) == 10) = true := by rw [h10]; rfl
        have hnx : R = joinR (xs ++ [⟨false, k, row, []⟩]) (lexM .gap (k + 1) (row + 1) (s.data.toList.drop (k + 1))) := by
          rw [HX.out.2.2.1, HD.out.2, h10, lexM_ten, joinR_joinR]
        obtain ⟨T, hT⟩ : ∃ T : Tk, T = ⟨false, k, row, []⟩ := ⟨_, rfl⟩
        rw [← hT] at hnx
        have HF := Lib.hid (And.intro hnx (And.intro (show T.word = false by rw [hT]) (And.intro (show T.text = [] by rw [hT]) (And.intro (show Value.int .i64 (k : Int) = .int .i64 T.at_ by rw [hT]) (show Value.int .i64 (row : Int) = .int .i64 T.row by rw [hT])))))
        clear hnx hT h10
        go_wp2_with (first
          | (refine wpList_build_line rfl _ (.tmp 28) (.tmp 29) rfl T HF.out.2.1 HF.out.2.2.1 rfl HF.out.2.2.2.1 HF.out.2.2.2.2 ?_)
          | (refine wpList_lit_tk rfl (.tmp 30) rfl T rfl ?_; have H5 := Lib.hid (And.intro (TkBox.new wr T) (And.intro (HX.out.1.later ((Below.refl _ _).alloc (Nat.le_refl _) (.cells (tkv T) 96))) (HX.out.2.2.2.trans ((Below.refl _ wr).alloc HX.out.2.2.2.size (.cells (tkv T) 96))))); generalize wr.alloc (.cells (tkv T) 96) = w5 at H5 ⊢)
          | (refine wpList_push_tk rfl (.tmp 27) (.tmp 31) rfl w.heap.size _ xs rfl H5.out.2.1 rfl H5.out.1 (by have := HX.out.2.1; omega) H5.out.2.2.size ?_; intro v6 w6 o6 g6 _; have H6 := Lib.hid (And.intro o6 (H5.out.2.2.grown g6 H5.out.2.2.size (fun x hx => (H5.out.2.1.lt hx).1))); clear o6 g6))
        refine ⟨⟨k + 1, row + 1, xs ++ [T], hlt, by go_num, by go_num, by omega, ⟨H6.out.1, by rw [List.length_append]; have := HX.out.2.1; simp; omega, HF.out.1, H6.out.2⟩⟩, by simp [intOf]; omega⟩
      have e10 : ((x.toNat : Int) == 10) = false := HN.out 10 h10
      by_cases hb : blankB x = true
      · have hnx : R = joinR xs (lexM .gap (k + 1) row (s.data.toList.drop (k + 1))) := by
          rw [HX.out.2.2.1, HD.out.2, lexM_blank hb]
        have HF := Lib.hid hnx
        clear hnx
        by_cases h9 : x = 9
        · have e9 : ((x.toNat : Int) == 9) = true := by rw [h9]; rfl
          clear h9 h10 hb
          go_wp2_with fail
          refine ⟨⟨k + 1, row, xs, hlt, by go_num, rfl, by omega, ⟨HX.out.1, by have := HX.out.2.1; omega, HF.out, HX.out.2.2.2⟩⟩, by simp [intOf]; omega⟩
        have e9 : ((x.toNat : Int) == 9) = false := HN.out 9 h9
        by_cases h13 : x = 13
        · have e13 : ((x.toNat : Int) == 13) = true := by rw [h13]; rfl
          clear h13 h9 h10 hb
          go_wp2_with fail
          refine ⟨⟨k + 1, row, xs, hlt, by go_num, rfl, by omega, ⟨HX.out.1, by have := HX.out.2.1; omega, HF.out, HX.out.2.2.2⟩⟩, by simp [intOf]; omega⟩
        have e13 : ((x.toNat : Int) == 13) = false := HN.out 13 h13
        have h32 : x = 32 := by
          unfold blankB at hb
          simp [h9, h13] at hb
          exact hb
        have e32 : ((x.toNat : Int) == 32) = true := by rw [h32]; rfl
        clear h32 h13 h9 h10 hb
        go_wp2_with fail
        refine ⟨⟨k + 1, row, xs, hlt, by go_num, rfl, by omega, ⟨HX.out.1, by have := HX.out.2.1; omega, HF.out, HX.out.2.2.2⟩⟩, by simp [intOf]; omega⟩
      have h9 : x ≠ 9 := fun h => hb (by rw [h]; rfl)
      have h13 : x ≠ 13 := fun h => hb (by rw [h]; rfl)
      have h32 : x ≠ 32 := fun h => hb (by rw [h]; rfl)
      have e9 : ((x.toNat : Int) == 9) = false := HN.out 9 h9
      have e13 : ((x.toNat : Int) == 13) = false := HN.out 13 h13
      have e32 : ((x.toNat : Int) == 32) = false := HN.out 32 h32
      by_cases h35 : x = 35
      · have e35 : ((x.toNat : Int) == 35) = true := by rw [h35]; rfl
        obtain ⟨a, r, n1, n2, n3⟩ := noteRun (s.data.toList.drop (k + 1))
        have hK := remark18 (s.extract k s.size) (by rw [sub18_size]; omega) wr
        have hlen : k + 1 + a.length ≤ s.size := by
          have := congrArg List.length n1
          rw [List.length_drop, List.length_append, HL.out] at this
          omega
        have hr : r = s.data.toList.drop (k + 1 + a.length) := by
          rw [← List.drop_drop, n1, List.drop_left]
        have hnx : R = joinR xs (lexM .gap (k + 1 + a.length) row (s.data.toList.drop (k + 1 + a.length))) := by
          rw [HX.out.2.2.1, HD.out.2, h35, n1, ← List.cons_append, lexM_pass a k row r n2 n3, ← hr]
        have hn : ∀ n : Nat, (∀ a r, (s.extract k s.size).data.toList = a ++ r → (∀ c ∈ a, c ≠ 10) → (∀ c, r.head? = some c → c = 10) → n = a.length) → n = a.length + 1 := fun n h => by
          have := h (35 :: a) r (by rw [sub18, HD.out.2, h35, n1]; rfl) (fun c hc => by
            rcases List.mem_cons.1 hc with rfl | hc
            · decide
            · exact n2 c hc) n3
          rw [this]
          rfl
        obtain ⟨m, hm⟩ : ∃ m, a.length = m := ⟨_, rfl⟩
        rw [hm] at hlen hnx hn
        have HF := Lib.hid (And.intro hnx hn)
        have K := Lib.hid hK
        clear hnx hn hK hm hr n1 n2 n3 h35 h32 h13 h9 h10 hb
        go_wp2_with fail
        refine K.out.mono ?_
        rintro e w' ⟨n, rfl, hn, hb⟩
        obtain rfl := HF.out.2 n hn
        have HB := Lib.hid hb
        clear hb hn
        go_wp2_with fail
        refine ⟨⟨k + 1 + m, row, xs, hlen, by go_num, rfl, by omega, ⟨HX.out.1.later HB.out, by have := HX.out.2.1; omega, HF.out.1, HX.out.2.2.2.trans (HB.out.mono HX.out.2.2.2.size)⟩⟩, by simp [intOf]; omega⟩
      have e35 : ((x.toNat : Int) == 35) = false := HN.out 35 h35
      have K := Lib.hid (word18 (s.extract k s.size) (by rw [sub18_size]; omega) wr)
      by_cases hw : wordB x = true
      · have HW := Lib.hid hw
        clear hw h35 h32 h13 h9 h10 hb
        go_wp2_with fail
        refine K.out.mono ?_
        rintro e w' ⟨n, rfl, n1, n2, n3, rfl⟩
        rw [sub18_size] at n1
        rw [sub18] at n2 n3
        have hpos : n ≠ 0 := by
          rintro rfl
          have := n3 x (by rw [List.getElem?_drop]; exact HD.out.1)
          rw [HW.out] at this
          cases this
        have hnx : R = joinR (xs ++ [⟨true, k, row, (s.data.toList.drop k).take n⟩]) (lexM .gap (k + n) row (s.data.toList.drop (k + n))) := by
          have hl : ((s.data.toList.drop k).take n).length = n := by
            rw [List.length_take, List.length_drop, HL.out]
            omega
          have h1 := lexM_whole (w := (s.data.toList.drop k).take n) (fun h => by rw [h] at hl; exact hpos hl.symm) (fun c hc => by
            obtain ⟨j, hj⟩ := List.mem_iff_getElem?.1 hc
            have hjl := (List.getElem?_eq_some_iff.1 hj).1
            rw [hl] at hjl
            rw [List.getElem?_take, if_pos hjl] at hj
            exact n2 j c hjl hj) k row ((s.data.toList.drop k).drop n) (fun c hc => n3 c (by rw [← List.head?_drop]; exact hc))
          rw [List.take_append_drop, hl, List.drop_drop] at h1
          rw [HX.out.2.2.1, h1, joinR_joinR]
        have htx : Value.string (s.extract k (k + n)) = .string (mkS ((s.data.toList.drop k).take n)) := by
          rw [← mkS_back (s.extract k (k + n)), cut_piece, Nat.add_sub_cancel_left]
        obtain ⟨T, hT⟩ : ∃ T : Tk, T = ⟨true, k, row, (s.data.toList.drop k).take n⟩ := ⟨_, rfl⟩
        rw [← hT] at hnx
        have HF := Lib.hid (And.intro hnx (And.intro (show T.word = true by rw [hT]) (And.intro (show Value.string (s.extract k (k + n)) = .string (mkS T.text) by rw [hT]; exact htx) (And.intro (show Value.int .i64 (k : Int) = .int .i64 T.at_ by rw [hT]) (show Value.int .i64 (row : Int) = .int .i64 T.row by rw [hT])))))
        have hn0 : ((n : Int) == 0) = false := by rw [beq_eq_false_iff_ne]; omega
        have g1 : k + n ≤ s.size := by omega
        have g2 : (k : Int) + n ≤ s.size := by omega
        have g3 : (0 : Int) ≤ (k : Int) := by omega
        have g4 : (k : Int) ≤ (k : Int) + n := by omega
        clear hnx hT htx n2 n3 n1
        go_wp2_with (first
          | (refine wpList_build_word rfl _ (.tmp 53) (.tmp 54) (.tmp 60) rfl T HF.out.2.1 rfl HF.out.2.2.2.1 HF.out.2.2.2.2 HF.out.2.2.1 ?_)
          | (refine wpList_lit_tk rfl (.tmp 61) rfl T rfl ?_; have H5 := Lib.hid (And.intro (TkBox.new wr T) (And.intro (HX.out.1.later ((Below.refl _ _).alloc (Nat.le_refl _) (.cells (tkv T) 96))) (HX.out.2.2.2.trans ((Below.refl _ wr).alloc HX.out.2.2.2.size (.cells (tkv T) 96))))); generalize wr.alloc (.cells (tkv T) 96) = w5 at H5 ⊢)
          | (refine wpList_push_tk rfl (.tmp 52) (.tmp 62) rfl w.heap.size _ xs rfl H5.out.2.1 rfl H5.out.1 (by have := HX.out.2.1; omega) H5.out.2.2.size ?_; intro v6 w6 o6 g6 _; have H6 := Lib.hid (And.intro o6 (H5.out.2.2.grown g6 H5.out.2.2.size (fun x hx => (H5.out.2.1.lt hx).1))); clear o6 g6))
        refine ⟨⟨k + n, row, xs ++ [T], g1, by go_num, rfl, by omega, ⟨H6.out.1, by rw [List.length_append]; have := HX.out.2.1; simp; omega, HF.out.1, H6.out.2⟩⟩, by simp [intOf]; omega⟩
      · have hno : R = .inl k := by
          rw [HX.out.2.2.1, HD.out.2, lexM_no]
          · rfl
          · unfold fineB
            rw [Bool.eq_false_iff.2 hb, Bool.eq_false_iff.2 hw]
            simp [h35, h10]
        have HW := Lib.hid (And.intro hno (Bool.eq_false_iff.2 hw))
        have K2 := Lib.hid (wrap18 (k : Int) 37 (.int .i64 21) wr)
        clear hno hw h35 h32 h13 h9 h10 hb
        go_wp2_with fail
        refine K.out.mono ?_
        rintro e w' ⟨n, rfl, n1, n2, n3, rfl⟩
        have hn0 : n = 0 := by
          rcases Nat.eq_zero_or_pos n with h | h
          · exact h
          · have := n2 0 x h (by rw [sub18, List.getElem?_drop]; exact HD.out.1)
            rw [HW.out.2] at this
            cases this
        subst hn0
        clear n1 n2 n3
        go_wp2_with fail
        refine K2.out.mono ?_
        rintro e w' ⟨rfl, hw'⟩
        have HB := Lib.hid hw'
        clear hw'
        go_wp2_with fail
        go_ret2
        have hbb : Below w.heap.size w w' := by rw [← HB.out]; exact HX.out.2.2.2.trans ((Below.refl _ wr).alloc HX.out.2.2.2.size _)
        rw [HW.out.1]
        exact ⟨_, rfl, ⟨_, rfl, _, rfl, by rw [← HB.out]; exact heap_alloc_last wr _⟩, hbb⟩
    · obtain rfl : k = s.size := by omega
      have hnx : R = .inr (xs ++ [⟨false, s.size, row, []⟩]) := by
        rw [HX.out.2.2.1, List.drop_of_length_le (by rw [HL.out]; exact Nat.le_refl _), lexM_end]
        rfl
      obtain ⟨T, hT⟩ : ∃ T : Tk, T = ⟨false, s.size, row, []⟩ := ⟨_, rfl⟩
      rw [← hT] at hnx
      have HF := Lib.hid (And.intro hnx (And.intro (show T.word = false by rw [hT]) (And.intro (show T.text = [] by rw [hT]) (And.intro (show Value.int .i64 (s.size : Int) = .int .i64 T.at_ by rw [hT]) (show Value.int .i64 (row : Int) = .int .i64 T.row by rw [hT])))))
      clear hnx hT
      go_wp2_with (first
        | (refine wpList_build_line rfl _ (.tmp 68) (.tmp 69) rfl T HF.out.2.1 HF.out.2.2.1 rfl HF.out.2.2.2.1 HF.out.2.2.2.2 ?_)
        | (refine wpList_lit_tk rfl (.tmp 70) rfl T rfl ?_; have H5 := Lib.hid (And.intro (TkBox.new wr T) (And.intro (HX.out.1.later ((Below.refl _ _).alloc (Nat.le_refl _) (.cells (tkv T) 96))) (HX.out.2.2.2.trans ((Below.refl _ wr).alloc HX.out.2.2.2.size (.cells (tkv T) 96))))); generalize wr.alloc (.cells (tkv T) 96) = w5 at H5 ⊢)
        | (refine wpList_push_tk rfl (.tmp 67) (.tmp 71) rfl w.heap.size _ xs rfl H5.out.2.1 rfl H5.out.1 (by have := HX.out.2.1; omega) H5.out.2.2.size ?_; intro v6 w6 o6 g6 _; have H6 := Lib.hid (And.intro o6 (H5.out.2.2.grown g6 H5.out.2.2.size (fun x hx => (H5.out.2.1.lt hx).1))); clear o6 g6))
      go_ret2
      rw [HF.out.1]
      exact ⟨_, rfl, ⟨_, rfl, H6.out.1⟩, H6.out.2⟩
end Go.Proofs.YtoagfmonfgagbaaGreatDoor
