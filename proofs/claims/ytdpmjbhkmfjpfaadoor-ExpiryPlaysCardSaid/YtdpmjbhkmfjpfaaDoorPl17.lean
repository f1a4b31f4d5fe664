/-
  stockadehelp.Plain of entries; slices of what is asked of a queue. No conditions.
-/
import Derived.Test.YtdpmjbhkmfjpfaaDoorEu17
import Derived.Test.YtdpmjbhkmfjpfaaDoorSq17
namespace Go.Proofs.YtdpmjbhkmfjpfaaDoor
open Go.RowKit
set_option maxRecDepth 100000

/-- What is asked of a queue. -/
structure Op17 where
  kind : Int
  id : Int
  at_ : Int
structure OpS (w : World) (A : Option Addr) (n c : Nat) (os : List Op17) : Prop where
  len : os.length = n
  cap : n ≤ c
  max : c ≤ maxLen
  here : ∀ (i : Nat) o, os[i]? = some o → ∃ b off, A = some ⟨b, off, none⟩ ∧ w.rangeAt b (off + i * 3) [.int .i64 o.kind, .int .i64 o.id, .int .u64 o.at_] ∧ b < w.heap.size
theorem OpS.later {B : Nat} {w w' : World} {A : Option Addr} {n c : Nat} {os : List Op17} (h : OpS w A n c os) (hb : Below B w w') (hB : w.heap.size ≤ B) : OpS w' A n c os :=
  ⟨h.len, h.cap, h.max, fun i o ho => by
    obtain ⟨b, off, rfl, h1, h2⟩ := h.here i o ho
    refine ⟨b, off, rfl, fun j v hj => ?_, Nat.lt_of_lt_of_le h2 hb.size⟩
    exact (hb.cell (p := ⟨b, off + i * 3 + j, none⟩) (Nat.lt_of_lt_of_le h2 hB)).trans (h1 j v hj)⟩
theorem en_range {w : World} {b o : Nat} {i t : Int} (r1 : w.cell? ⟨b, o, none⟩ = some (.int .i64 i)) (r2 : w.cell? ⟨b, o + 1, none⟩ = some (.int .u64 t)) : w.rangeAt b o [.int .i64 i, .int .u64 t] := fun j v hj => by
  match j, hj with
  | 0, hj =>
    obtain rfl := Option.some.inj hj
    exact r1
  | 1, hj =>
    obtain rfl := Option.some.inj hj
    exact r2
  | j + 2, hj => cases hj
theorem range_later' {w w' : World} {b o : Nat} {cs : List Value} (h : w.rangeAt b o cs) (hl : b < w.heap.size) (hb : Below w.heap.size w w') : w'.rangeAt b o cs := fun j v hj => (hb.cell (p := ⟨b, o + j, none⟩) hl).trans (h j v hj)
--<< one
theorem plainE1 (i t : Int) (w : World) : Calls Tryd.prog 30 #[.agg #[.int .i64 i, .int .u64 t], .agg #[.int .i64 i, .int .u64 t]] w fun e w' => e = .returned (.bool true) ∧ Below w.heap.size w w' := by
  have q1 := eqlEn
  have h1 : (i == i) = true := by simp
  have h2 : (t == t) = true := by simp
  have HB : Hid (Below w.heap.size w ((w.alloc (.cells #[.int .i64 i, .int .u64 t] 45)).alloc (.cells #[.int .i64 i, .int .u64 t] 45))) := ((Below.refl _ w).alloc (Nat.le_refl _) _).alloc (by simp) _
  go_enter Tryd.func30, Tryd.ntmps30
  go_wp2_with fail
  go_ret
  exact ⟨by simp, HB.out⟩
-->>
--<< same
set_option maxHeartbeats 2000000 in
theorem sameE {A B : Option Addr} {n c d : Nat} {xs : List En} {w : World} (ha : EnS w A n c xs) (hb : EnS w B n d xs) : Calls Tryd.prog 29 #[.slice A n c, .slice B n d, .func (.func 30) #[] #[]] w fun e w' => e = .returned (.bool true) ∧ Below w.heap.size w w' := by
  have hm := Nat.le_trans ha.cap ha.max
  unfold maxLen at hm
  have hlen := ha.len
  have HA := Lib.hid (And.intro ha hb)
  clear ha hb
  go_enter Tryd.func29, Tryd.ntmps29
  go_wp2
  go_loopw [7] (fun i wr => ∃ k : Nat, k ≤ n ∧ i = .int .i64 k ∧ Below w.heap.size w wr) (fun i _ => n - (intOf i).toNat)
  case atStart => exact ⟨0, Nat.zero_le _, rfl, Below.refl _ _⟩
  case round =>
    obtain ⟨k, hk, rfl, hbe⟩ := hrel
    by_cases hlt : k < n
    · obtain ⟨x, hx⟩ : ∃ x, xs[k]? = some x := ⟨xs[k]'(by omega), List.getElem?_eq_getElem _⟩
      obtain ⟨b, off, rfl, p1, p2⟩ := (HA.out.1.later hbe (Nat.le_refl _)).here k x hx
      obtain ⟨b', off', rfl, s1, s2⟩ := (HA.out.2.later hbe (Nat.le_refl _)).here k x hx
      obtain ⟨xi, xt⟩ := x
      dsimp only at p1 p2 s1 s2
      have HR := Lib.hid (And.intro (And.intro (en_range p1 p2) (lt_of_cell' p1)) (And.intro (en_range s1 s2) (lt_of_cell' s1)))
      have HE := Lib.hid hbe
      have g0 : (0 : Int) ≤ (k : Int) := by omega
      have g1 : (k : Int) < (n : Int) := by omega
      have hS : Below wr.heap.size wr wr.drew := (Below.refl _ _).drew
      clear p1 p2 s1 s2 hx hbe
      go_wp2_with fail
      refine rg_begin (fun w' => Below wr.heap.size wr w') 11 (by kernel_rfl) rfl ?_
      refine rg_take 0 (v := ?rv1) rfl (by kernel_rfl) (by kernel_rfl) (by kernel_rfl) (fun _ _ _ h => h) (by rfl) hS (fun w2 hw2 => ?ry1) ?rr1
      case ry1 => ((try dsimp only at hw2); go_simp <;> with_reducible rfl)
      simp only [Act.put, List.setIfInBounds_toArray, List.set_cons_zero, List.set_cons_succ]
      refine rg_take 1 (v := ?rv2) rfl (by kernel_rfl) (by kernel_rfl) (by kernel_rfl) (fun _ _ _ h => h) (by rfl) hS (fun w2 hw2 => ?ry2) ?rr2
      case ry2 => ((try dsimp only at hw2); go_simp <;> with_reducible rfl)
      simp only [Act.put, List.setIfInBounds_toArray, List.set_cons_zero, List.set_cons_succ]
      refine rg_take 2 (v := ?rv3) rfl (by kernel_rfl) (by kernel_rfl) (by kernel_rfl) (fun _ _ _ h => h) (by rfl) hS (fun w2 hw2 => ?ry3) ?rr3
      case ry3 => ((try dsimp only at hw2); go_simp <;> with_reducible rfl)
      simp only [Act.put, List.setIfInBounds_toArray, List.set_cons_zero, List.set_cons_succ]
      refine rg_take 5 (v := ?rv4) rfl (by kernel_rfl) (by kernel_rfl) (by kernel_rfl) (fun _ _ _ h => h) (by rfl) hS (fun w2 hw2 => ?ry4) ?rr4
      case ry4 => ((try dsimp only at hw2); go_simp <;> with_reducible rfl)
      simp only [Act.put, List.setIfInBounds_toArray, List.set_cons_zero, List.set_cons_succ]
      refine rg_take 6 (v := ?rv5) rfl (by kernel_rfl) (by kernel_rfl) (by kernel_rfl) (fun _ _ _ h => h) (by rfl) hS (fun w2 hw2 => ?ry5) ?rr5
      case ry5 => ((try dsimp only at hw2); go_simp <;> with_reducible rfl)
      simp only [Act.put, List.setIfInBounds_toArray, List.set_cons_zero, List.set_cons_succ]
      refine rg_take 3 (v := ?rv6) rfl (by kernel_rfl) (by kernel_rfl) (by kernel_rfl) (fun _ _ _ h => h) (by rfl) hS (fun w2 hw2 => ?ry6) ?rr6
      case ry6 => ((try dsimp only at hw2); go_simp <;> with_reducible rfl)
      simp only [Act.put, List.setIfInBounds_toArray, List.set_cons_zero, List.set_cons_succ]
      refine rg_take 7 (v := ?rv7) rfl (by kernel_rfl) (by kernel_rfl) (by kernel_rfl) (fun _ _ _ h => h) (by rfl) hS (fun w2 hw2 => ?ry7) ?rr7
      case ry7 => ((try dsimp only at hw2); go_simp <;> with_reducible rfl)
      simp only [Act.put, List.setIfInBounds_toArray, List.set_cons_zero, List.set_cons_succ]
      refine rg_load 4 rfl (by kernel_rfl) (by kernel_rfl) (by kernel_rfl) (b) (off + k * 2) (#[.int .i64 xi, .int .u64 xt]) (fun _ _ _ h => h) (by rfl) 45 (.tmp 22) rfl rfl hS (fun w2 h2 => range_later' HR.out.1.1 HR.out.1.2 h2) Tryd.underlying45 rfl (by kernel_rfl) ?_
      simp only [Act.put, List.setIfInBounds_toArray, List.set_cons_zero, List.set_cons_succ]
      refine rg_load 8 rfl (by kernel_rfl) (by kernel_rfl) (by kernel_rfl) (b') (off' + k * 2) (#[.int .i64 xi, .int .u64 xt]) (fun _ _ _ h => h) (by rfl) 45 (.tmp 26) rfl rfl hS (fun w2 h2 => range_later' HR.out.2.1 HR.out.2.2 h2) Tryd.underlying45 rfl (by kernel_rfl) ?_
      simp only [Act.put, List.setIfInBounds_toArray, List.set_cons_zero, List.set_cons_succ]
      refine rg_step 9 rfl (by kernel_rfl) (by rfl) (fun K hK => ?_)
      go_simp
      refine (plainE1 xi xt _).mono ?_
      rintro e w' ⟨rfl, b3⟩
      replace hS : Below wr.heap.size wr w' := hS.trans (b3.mono hS.size)
      have H3 := Lib.hid (HE.out.trans (hS.mono HE.out.size))
      clear b3
      refine hK.out _ _ hS ?_
      clear hK K
      try simp only [Act.put, List.setIfInBounds_toArray, List.set_cons_zero, List.set_cons_succ]
      refine rg_take 10 (v := ?rv8) rfl (by kernel_rfl) (by kernel_rfl) (by kernel_rfl) (fun _ _ _ h => h) (by rfl) hS (fun w2 hw2 => ?ry8) ?rr8
      case ry8 => ((try dsimp only at hw2); go_simp <;> with_reducible rfl)
      simp only [Act.put, List.setIfInBounds_toArray, List.set_cons_zero, List.set_cons_succ]
      refine rg_done (by kernel_rfl) ?_
      go_wp2_with fail
      refine ⟨⟨k + 1, hlt, by go_num, H3.out⟩, by simp [intOf]; omega⟩
    · obtain rfl : k = n := by omega
      have HX := Lib.hid hbe
      clear hbe
      go_wp2_with fail
      go_ret
      exact ⟨rfl, HX.out⟩
-->>
--<< plain
theorem plainE {A B : Option Addr} {n c d : Nat} {xs : List En} {w : World} (ha : EnS w A n c xs) (hb : EnS w B n d xs) : Calls Tryd.prog 13 #[.slice A n c, .slice B n d] w fun e w' => e = .returned (.bool true) ∧ Below w.heap.size w w' := by
  have K := Lib.hid (sameE ha hb)
  clear ha hb
  go_enter Tryd.func13, Tryd.ntmps13
  go_wp2_with fail
  refine K.out.mono ?_
  rintro e w' ⟨rfl, hw⟩
  have HW := Lib.hid hw
  clear hw
  go_wp2_with fail
  go_ret
  exact ⟨rfl, HW.out⟩
-->>
end Go.Proofs.YtdpmjbhkmfjpfaaDoor
