/-
  slices.IndexFunc of entries by an id, slices.BinarySearchFunc by expiry.compare, sort.Search by when they end. Conditions: those of the slices.
-/
import Derived.Test.YtdpmjbhkmfjpfaaDoorCm17
import Derived.IntWalk
namespace Go.Proofs.YtdpmjbhkmfjpfaaDoor
open Go.RowKit
set_option maxRecDepth 100000

--<< eqid
theorem isId_any (e : En) {g : Nat} {id : Int} {w : World} (hg : w.cell? ⟨g, 0, none⟩ = some (.int .i64 id)) : Calls Tryd.prog 42 #[.agg #[.int .i64 e.id, .int .u64 e.at_], .pointer (some ⟨g, 0, none⟩)] w fun x w' => x = .returned (.bool (e.id == id)) ∧ Below w.heap.size w w' := by
  obtain ⟨i, t⟩ := e
  dsimp only
  have hlt : g < w.heap.size := lt_of_cell' hg
  have e1 : (w.alloc (.cells #[.int .i64 i, .int .u64 t] 45)).cell? ⟨g, 0, none⟩ = some (.int .i64 id) := (((Below.refl _ w).alloc (Nat.le_refl _) _).cell (p := ⟨g, 0, none⟩) hlt).trans hg
  clear hg
  go_enter Tryd.func42, Tryd.ntmps42
  go_wp2_with fail
  go_ret
  exact ⟨rfl, (Below.refl _ _).alloc (Nat.le_refl _) _⟩
-->>
--<< index
set_option maxHeartbeats 2000000 in
theorem index_any {A : Option Addr} {n c : Nat} {xs : List En} {w : World} (hs : EnS w A n c xs) {g : Nat} {id : Int} (hg : w.cell? ⟨g, 0, none⟩ = some (.int .i64 id)) :
    Calls Tryd.prog 41 #[.slice A n c, .func (.func 42) #[] #[.pointer (some ⟨g, 0, none⟩)]] w fun e w' => e = .returned (.int .i64 (idxv xs id)) ∧ Below w.heap.size w w' := by
  have hcap := hs.cap
  have hmax := hs.max
  unfold maxLen at hmax
  have hlen := hs.len
  have hlt : g < w.heap.size := lt_of_cell' hg
  have HB := Lib.hid (And.intro hs hg)
  clear hs hg
  go_enter Tryd.func41, Tryd.ntmps41
  go_wp2_with fail
  go_loopw [8] (fun i wr => ∃ k : Nat, k ≤ n ∧ i = .int .i64 k ∧ (∀ (j : Nat) (x : En), j < k → xs[j]? = some x → (x.id == id) = false) ∧ Below w.heap.size w wr) (fun i _ => n - (intOf i).toNat)
  case atStart => exact ⟨0, Nat.zero_le _, rfl, fun j x h => absurd h (by omega), Below.refl _ _⟩
  case round =>
    obtain ⟨k, hk, rfl, hall, hbe⟩ := hrel
    by_cases hkn : k < n
    · obtain ⟨x, hxk⟩ : ∃ x, xs[k]? = some x := ⟨xs[k]'(by omega), List.getElem?_eq_getElem _⟩
      obtain ⟨b, off, rfl, r1, r2⟩ := (HB.out.1.later hbe (Nat.le_refl _)).here k x hxk
      have K := Lib.hid (isId_any x ((hbe.cell (p := ⟨g, 0, none⟩) hlt).trans HB.out.2))
      have HX := Lib.hid (And.intro hxk (And.intro hall hbe))
      clear hxk hall hbe
      obtain ⟨xi, xt⟩ := x
      dsimp only at r1 r2
      cases hs : (xi == id) with
      | false =>
        have HS := Lib.hid hs
        rw [hs] at K
        clear hs
        go_wp2_with fail
        refine K.out.mono ?_
        rintro e w' ⟨rfl, hw⟩
        have HW := Lib.hid (HX.out.2.2.trans (hw.mono HX.out.2.2.size))
        clear hw
        go_wp2_with fail
        refine ⟨⟨k + 1, hkn, by go_num, fun j y hj hy => ?_, HW.out⟩, by simp [intOf]; omega⟩
        by_cases hjk : j = k
        · subst hjk
          rw [HX.out.1] at hy
          obtain rfl := Option.some.inj hy
          exact HS.out
        · exact HX.out.2.1 j y (by omega) hy
      | true =>
        have HS := Lib.hid hs
        rw [hs] at K
        clear hs
        go_wp2_with fail
        refine K.out.mono ?_
        rintro e w' ⟨rfl, hw⟩
        have HW := Lib.hid (HX.out.2.2.trans (hw.mono HX.out.2.2.size))
        clear hw
        go_wp2_with fail
        go_ret
        exact ⟨by rw [idxv_at HX.out.1 HS.out HX.out.2.1]; rfl, HW.out⟩
    · obtain rfl : k = n := by omega
      have HX := Lib.hid (And.intro hall hbe)
      clear hall hbe
      go_wp2_with fail
      go_ret
      refine ⟨?_, HX.out.2⟩
      rw [idxv_no fun j e he => HX.out.1 j e (by have := (List.getElem?_eq_some_iff.1 he).1; omega) he]
      rfl
-->>
--<< bsearch
theorem range2_new (w : World) (x y : Value) (T : TypeId) : (w.alloc (.cells #[x, y] T)).rangeAt w.heap.size 0 [x, y] := fun j v hj => by
  rw [World.cell?_alloc_at _ _ _ _ rfl, Nat.zero_add, ← Array.getElem?_toList]
  exact hj
theorem EnS.range {w : World} {A : Option Addr} {n c : Nat} {xs : List En} (h : EnS w A n c xs) {i : Nat} {e : En} (he : xs[i]? = some e) : ∃ b off, A = some ⟨b, off, none⟩ ∧ w.rangeAt b (off + i * 2) [.int .i64 e.id, .int .u64 e.at_] := by
  obtain ⟨b, off, hA, h1, h2⟩ := h.here i e he
  refine ⟨b, off, hA, fun j v hj => ?_⟩
  match j, hj with
  | 0, hj => obtain rfl := Option.some.inj hj; exact h1
  | 1, hj => obtain rfl := Option.some.inj hj; exact h2
  | j + 2, hj => simp at hj
theorem range_later {B : Nat} {w w' : World} {b o : Nat} {cs : List Value} (h : w.rangeAt b o cs) (hb : Below B w w') (hB : w.heap.size ≤ B) : w'.rangeAt b o cs := fun j v hj => by
  have h1 := h j v hj
  have hlt : b < w.heap.size := lt_of_cell' h1
  rw [hb.cell (p := ⟨b, o + j, none⟩) (by show b < B; omega)]
  exact h1
theorem mid_eq (k1 k2 h : Nat) (hh : h = (k1 + k2) / 2) (h1 : k1 ≤ 9223372036854775807) (h2 : k2 ≤ 9223372036854775807) : wrap64 (IntKind.u64.wrap (wrap64 ((k1 : Int) + (k2 : Int))) / 2) = (h : Int) := by
  have e1 : wrap64 ((k1 : Int) + (k2 : Int)) = if (k1 : Int) + k2 < 9223372036854775808 then (k1 : Int) + k2 else (k1 : Int) + k2 - 18446744073709551616 := by
    unfold wrap64
    split <;> omega
  have e2 : IntKind.u64.wrap (wrap64 ((k1 : Int) + (k2 : Int))) = (k1 : Int) + k2 := by
    rw [e1, IntKind.wrap_u64]
    split <;> omega
  rw [e2]
  unfold wrap64
  subst hh
  omega
theorem lt_part {xs : List En} (hs : SortedE xs) {x : En} {h : Nat} {m : En} (hm : xs[h]? = some m) (hl : En.lt m x) {k : Nat} {e : En} (hk : k < h + 1) (he : xs[k]? = some e) : En.lt e x := by
  by_cases hkh : k = h
  · subst hkh
    rw [hm] at he
    obtain rfl := Option.some.inj he
    exact hl
  · exact En.lt_trans (sorted_get hs he hm (by omega)) hl
theorem ge_part {xs : List En} (hs : SortedE xs) {x : En} {h : Nat} {m : En} (hm : xs[h]? = some m) (hl : ¬ En.lt m x) {k : Nat} {e : En} (hk : h ≤ k) (he : xs[k]? = some e) : ¬ En.lt e x := by
  by_cases hkh : k = h
  · subst hkh
    rw [hm] at he
    obtain rfl := Option.some.inj he
    exact hl
  · intro h2
    exact hl (En.lt_trans (sorted_get hs hm he (by omega)) h2)
set_option maxHeartbeats 4000000 in
theorem bsearch_any {A : Option Addr} {n c : Nat} {xs : List En} {w : World} (hs : EnS w A n c xs) (hso : SortedE xs) (x : En) :
    Calls Tryd.prog 43 #[.slice A n c, .agg #[.int .i64 x.id, .int .u64 x.at_], .func (.func 44) #[] #[]] w fun e w' => ∃ (i : Nat) (b : Bool), e = .returned (.tuple #[.int .i64 i, .bool b]) ∧ Parts xs (fun e => En.lt e x) i ∧ Below w.heap.size w w' := by
  obtain ⟨xi, xt⟩ := x
  dsimp only
  have hcap := hs.cap
  have hmax := hs.max
  unfold maxLen at hmax
  have hlen := hs.len
  have hb1 : Below w.heap.size w (w.alloc (.cells #[.int .i64 xi, .int .u64 xt] 45)) := (Below.refl _ _).alloc (Nat.le_refl _) _
  have HB := Lib.hid (And.intro hs (And.intro hso hb1))
  clear hs hb1 hso
  go_enter Tryd.func43, Tryd.ntmps43
  go_wp2_with fail
  obtain ⟨W, hW⟩ : ∃ W, w.alloc (.cells #[.int .i64 xi, .int .u64 xt] 45) = W := ⟨_, rfl⟩
  have hbox : W.rangeAt w.heap.size 0 [.int .i64 xi, .int .u64 xt] := by
    rw [← hW]
    exact range2_new w _ _ _
  have hb2 : Below w.heap.size w W := hW ▸ HB.out.2.2
  rw [hW]
  have HBX := Lib.hid (And.intro hbox hb2)
  have hlW : w.heap.size < W.heap.size := by rw [← hW]; simp
  clear hbox hb2 hW
  go_loopw [9, 10] (fun i j wr => ∃ k1 k2 : Nat, k1 ≤ k2 ∧ k2 ≤ n ∧ i = .int .i64 k1 ∧ j = .int .i64 k2 ∧ (∀ (k : Nat) (e : En), xs[k]? = some e → k < k1 → En.lt e ⟨xi, xt⟩) ∧ (∀ (k : Nat) (e : En), xs[k]? = some e → k2 ≤ k → ¬ En.lt e ⟨xi, xt⟩) ∧ Below W.heap.size W wr) (fun i j _ => (intOf j).toNat - (intOf i).toNat)
  case atStart => exact ⟨0, n, Nat.zero_le _, Nat.le_refl _, rfl, rfl, fun k e _ h => absurd h (by omega), fun k e h1 h2 => by have := (List.getElem?_eq_some_iff.1 h1).1; omega, Below.refl _ _⟩
  case round =>
    obtain ⟨k1, k2, hk12, hk2, rfl, rfl, hlo, hhi, hbe⟩ := hrel
    have HX := Lib.hid (And.intro hlo (And.intro hhi hbe))
    clear hlo hhi hbe
    by_cases hlt : k1 < k2
    · obtain ⟨h, hh⟩ : ∃ h, h = (k1 + k2) / 2 := ⟨_, rfl⟩
      have hh1 : k1 ≤ h := by omega
      have hh2 : h < k2 := by omega
      have hmid : wrap64 (IntKind.u64.wrap (wrap64 ((k1 : Int) + (k2 : Int))) / 2) = (h : Int) := mid_eq k1 k2 h hh (by omega) (by omega)
      clear hh
      obtain ⟨m, hm⟩ : ∃ m, xs[h]? = some m := ⟨xs[h]'(by omega), List.getElem?_eq_getElem _⟩
      have HM := Lib.hid hmid
      clear hmid
      go_wp2_with fail
      rw [HM.out]
      clear HM
      obtain ⟨b, off, rfl, _⟩ := HB.out.1.range hm
      have HR : ∀ w', Below W.heap.size W w' → w'.rangeAt b (off + h * 2) [.int .i64 m.id, .int .u64 m.at_] := fun w' hb => by
        obtain ⟨b', off', e, hr⟩ := (HB.out.1.later (HBX.out.2.trans (hb.mono HBX.out.2.size)) (Nat.le_refl _)).range hm
        cases e
        exact hr
      have HR := Lib.hid HR
      have hS : Below W.heap.size W wr.drew := below_of_drew HX.out.2.2
      obtain ⟨C, hC⟩ : ∃ C, C = orv (cmpv m.at_ xt) (cmpv m.id xi) := ⟨_, rfl⟩
      have hcl : C < 0 ↔ En.lt m ⟨xi, xt⟩ := hC ▸ cmp_lt m ⟨xi, xt⟩
      have HK : ∀ w1, Calls Tryd.prog 44 #[.agg #[.int .i64 m.id, .int .u64 m.at_], .agg #[.int .i64 xi, .int .u64 xt]] w1 fun e w' => e = .returned (.int .i64 C) ∧ Below w1.heap.size w1 w' := fun w1 => hC ▸ compare_any m ⟨xi, xt⟩ w1
      have HK := Lib.hid HK
      have HM := Lib.hid hm
      clear hC hm
      have hhn : (h : Int) < (n : Int) := by omega
      refine rg_begin (fun w' => Below W.heap.size W w') 8 (by kernel_rfl) rfl ?_
      refine rg_take 0 (v := ?rv1) rfl (by kernel_rfl) (by kernel_rfl) (by kernel_rfl) (fun _ _ _ h => h) (by rfl) hS (fun w2 hw2 => ?ry1) ?rr1
      case ry1 => ((try dsimp only at hw2); go_simp <;> with_reducible rfl)
      simp only [Act.put, List.setIfInBounds_toArray, List.set_cons_zero, List.set_cons_succ]
      refine rg_take 1 (v := ?rv2) rfl (by kernel_rfl) (by kernel_rfl) (by kernel_rfl) (fun _ _ _ h => h) (by rfl) hS (fun w2 hw2 => ?ry2) ?rr2
      case ry2 => ((try dsimp only at hw2); go_simp <;> with_reducible rfl)
      simp only [Act.put, List.setIfInBounds_toArray, List.set_cons_zero, List.set_cons_succ]
      refine rg_take 2 (v := ?rv3) rfl (by kernel_rfl) (by kernel_rfl) (by kernel_rfl) (fun _ _ _ h => h) (by rfl) hS (fun w2 hw2 => ?ry3) ?rr3
      case ry3 => ((try dsimp only at hw2); go_simp <;> with_reducible rfl)
      simp only [Act.put, List.setIfInBounds_toArray, List.set_cons_zero, List.set_cons_succ]
      refine rg_load 5 rfl (by kernel_rfl) (by kernel_rfl) (by kernel_rfl) (w.heap.size) (0) (#[.int .i64 xi, .int .u64 xt]) (fun _ _ _ h => h) (by rfl) 45 (.tmp 4) rfl rfl hS (fun w2 h2 => range_later HBX.out.1 h2 (Nat.le_refl _)) Tryd.underlying45 rfl (by kernel_rfl) ?_
      simp only [Act.put, List.setIfInBounds_toArray, List.set_cons_zero, List.set_cons_succ]
      refine rg_take 3 (v := ?rv4) rfl (by kernel_rfl) (by kernel_rfl) (by kernel_rfl) (fun _ _ _ h => h) (by rfl) hS (fun w2 hw2 => ?ry4) ?rr4
      case ry4 => ((try dsimp only at hw2); go_simp <;> with_reducible rfl)
      simp only [Act.put, List.setIfInBounds_toArray, List.set_cons_zero, List.set_cons_succ]
      refine rg_load 4 rfl (by kernel_rfl) (by kernel_rfl) (by kernel_rfl) (b) (off + h * 2) (#[.int .i64 m.id, .int .u64 m.at_]) (fun _ _ _ h => h) (by rfl) 45 (.tmp 27) rfl rfl hS (fun w2 h2 => HR.out w2 h2) Tryd.underlying45 rfl (by kernel_rfl) ?_
      simp only [Act.put, List.setIfInBounds_toArray, List.set_cons_zero, List.set_cons_succ]
      refine rg_step 6 rfl (by kernel_rfl) (by rfl) (fun K hK => ?_)
      go_simp
      refine (HK.out _).mono ?_
      rintro e w1 ⟨rfl, hb⟩
      replace hS := hS.trans (hb.mono hS.size)
      clear hb
      refine hK.out _ _ hS ?_
      clear hK K
      try simp only [Act.put, List.setIfInBounds_toArray, List.set_cons_zero, List.set_cons_succ]
      refine rg_take 7 (v := ?rv5) rfl (by kernel_rfl) (by kernel_rfl) (by kernel_rfl) (fun _ _ _ h => h) (by rfl) hS (fun w2 hw2 => ?ry5) ?rr5
      case ry5 => ((try dsimp only at hw2); go_simp <;> with_reducible rfl)
      simp only [Act.put, List.setIfInBounds_toArray, List.set_cons_zero, List.set_cons_succ]
      refine rg_done (by kernel_rfl) ?_
      by_cases hc0 : C < 0
      · have HL := Lib.hid (hcl.1 hc0)
        have HS := Lib.hid hS
        clear hS hcl
        go_wp2_with fail
        refine ⟨⟨h + 1, k2, hh2, hk2, by go_num, rfl, fun k e he hk => lt_part HB.out.2.1 HM.out HL.out hk he, HX.out.2.1, HS.out⟩, by simp [intOf]; omega⟩
      · have HL := Lib.hid (fun x => hc0 (hcl.2 x))
        have HS := Lib.hid hS
        clear hS hcl
        go_wp2_with fail
        refine ⟨⟨k1, h, hh1, by omega, rfl, rfl, HX.out.1, fun k e he hk => ge_part HB.out.2.1 HM.out HL.out hk he, HS.out⟩, by simp [intOf]; omega⟩
    · obtain rfl : k1 = k2 := by omega
      clear hlt
      have HP : Hid (Parts xs (fun e => En.lt e ⟨xi, xt⟩) k1) := by
        refine ⟨by omega, fun k e he => ⟨fun hk => HX.out.1 k e he hk, fun hl => ?_⟩⟩
        rcases Nat.lt_or_ge k k1 with h1 | h1
        · exact h1
        · exact absurd hl (HX.out.2.1 k e he h1)
      have hS : Below W.heap.size W wr.drew := below_of_drew HX.out.2.2
      by_cases hkn : k1 < n
      · obtain ⟨m, hm⟩ : ∃ m, xs[k1]? = some m := ⟨xs[k1]'(by omega), List.getElem?_eq_getElem _⟩
        obtain ⟨b, off, rfl, _⟩ := HB.out.1.range hm
        have HR : ∀ w', Below W.heap.size W w' → w'.rangeAt b (off + k1 * 2) [.int .i64 m.id, .int .u64 m.at_] := fun w' hb => by
          obtain ⟨b', off', e, hr⟩ := (HB.out.1.later (HBX.out.2.trans (hb.mono HBX.out.2.size)) (Nat.le_refl _)).range hm
          cases e
          exact hr
        have HR := Lib.hid HR
        have HK := Lib.hid fun w1 => compare_any m ⟨xi, xt⟩ w1
        obtain ⟨C, hC⟩ : ∃ C, C = orv (cmpv m.at_ xt) (cmpv m.id xi) := ⟨_, rfl⟩
        dsimp only at HK
        rw [← hC] at HK
        clear hC hm
        go_wp2_with fail
        refine rg_begin (fun w' => Below W.heap.size W w') 16 (by kernel_rfl) rfl ?_
        refine rg_take 0 (v := ?rv6) rfl (by kernel_rfl) (by kernel_rfl) (by kernel_rfl) (fun _ _ _ h => h) (by rfl) hS (fun w2 hw2 => ?ry6) ?rr6
        case ry6 => ((try dsimp only at hw2); go_simp <;> with_reducible rfl)
        simp only [Act.put, List.setIfInBounds_toArray, List.set_cons_zero, List.set_cons_succ]
        refine rg_take 1 (v := ?rv7) rfl (by kernel_rfl) (by kernel_rfl) (by kernel_rfl) (fun _ _ _ h => h) (by rfl) hS (fun w2 hw2 => ?ry7) ?rr7
        case ry7 => ((try dsimp only at hw2); go_simp <;> with_reducible rfl)
        simp only [Act.put, List.setIfInBounds_toArray, List.set_cons_zero, List.set_cons_succ]
        refine rg_take 2 (v := ?rv8) rfl (by kernel_rfl) (by kernel_rfl) (by kernel_rfl) (fun _ _ _ h => h) (by rfl) hS (fun w2 hw2 => ?ry8) ?rr8
        case ry8 => ((try dsimp only at hw2); go_simp <;> with_reducible rfl)
        simp only [Act.put, List.setIfInBounds_toArray, List.set_cons_zero, List.set_cons_succ]
        refine rg_take 3 (v := ?rv9) rfl (by kernel_rfl) (by kernel_rfl) (by kernel_rfl) (fun _ _ _ h => h) (by rfl) hS (fun w2 hw2 => ?ry9) ?rr9
        case ry9 => ((try dsimp only at hw2); go_simp <;> with_reducible rfl)
        simp only [Act.put, List.setIfInBounds_toArray, List.set_cons_zero, List.set_cons_succ]
        refine rg_take 4 (v := ?rv10) rfl (by kernel_rfl) (by kernel_rfl) (by kernel_rfl) (fun _ _ _ h => h) (by rfl) hS (fun w2 hw2 => ?ry10) ?rr10
        case ry10 => ((try dsimp only at hw2); go_simp <;> with_reducible rfl)
        simp only [Act.put, List.setIfInBounds_toArray, List.set_cons_zero, List.set_cons_succ]
        refine rg_take 5 (v := ?rv11) rfl (by kernel_rfl) (by kernel_rfl) (by kernel_rfl) (fun _ _ _ h => h) (by rfl) hS (fun w2 hw2 => ?ry11) ?rr11
        case ry11 => ((try dsimp only at hw2); go_simp <;> with_reducible rfl)
        simp only [Act.put, List.setIfInBounds_toArray, List.set_cons_zero, List.set_cons_succ]
        refine rg_take 6 (v := ?rv12) rfl (by kernel_rfl) (by kernel_rfl) (by kernel_rfl) (fun _ _ _ h => h) (by rfl) hS (fun w2 hw2 => ?ry12) ?rr12
        case ry12 => ((try dsimp only at hw2); go_simp <;> with_reducible rfl)
        simp only [Act.put, List.setIfInBounds_toArray, List.set_cons_zero, List.set_cons_succ]
        refine rg_take 7 (v := ?rv13) rfl (by kernel_rfl) (by kernel_rfl) (by kernel_rfl) (fun _ _ _ h => h) (by rfl) hS (fun w2 hw2 => ?ry13) ?rr13
        case ry13 => ((try dsimp only at hw2); go_simp <;> with_reducible rfl)
        simp only [Act.put, List.setIfInBounds_toArray, List.set_cons_zero, List.set_cons_succ]
        refine rg_load 10 rfl (by kernel_rfl) (by kernel_rfl) (by kernel_rfl) (w.heap.size) (0) (#[.int .i64 xi, .int .u64 xt]) (fun _ _ _ h => h) (by rfl) 45 (.tmp 4) rfl rfl hS (fun w2 h2 => range_later HBX.out.1 h2 (Nat.le_refl _)) Tryd.underlying45 rfl (by kernel_rfl) ?_
        simp only [Act.put, List.setIfInBounds_toArray, List.set_cons_zero, List.set_cons_succ]
        refine rg_take 8 (v := ?rv14) rfl (by kernel_rfl) (by kernel_rfl) (by kernel_rfl) (fun _ _ _ h => h) (by rfl) hS (fun w2 hw2 => ?ry14) ?rr14
        case ry14 => ((try dsimp only at hw2); go_simp <;> with_reducible rfl)
        simp only [Act.put, List.setIfInBounds_toArray, List.set_cons_zero, List.set_cons_succ]
        refine rg_load 9 rfl (by kernel_rfl) (by kernel_rfl) (by kernel_rfl) (b) (off + k1 * 2) (#[.int .i64 m.id, .int .u64 m.at_]) (fun _ _ _ h => h) (by rfl) 45 (.tmp 43) rfl rfl hS (fun w2 h2 => HR.out w2 h2) Tryd.underlying45 rfl (by kernel_rfl) ?_
        simp only [Act.put, List.setIfInBounds_toArray, List.set_cons_zero, List.set_cons_succ]
        refine rg_step 11 rfl (by kernel_rfl) (by rfl) (fun K hK => ?_)
        go_simp
        refine (HK.out _).mono ?_
        rintro e w1 ⟨rfl, hb⟩
        replace hS := hS.trans (hb.mono hS.size)
        clear hb
        refine hK.out _ _ hS ?_
        clear hK K
        try simp only [Act.put, List.setIfInBounds_toArray, List.set_cons_zero, List.set_cons_succ]
        refine rg_take 12 (v := ?rv15) rfl (by kernel_rfl) (by kernel_rfl) (by kernel_rfl) (fun _ _ _ h => h) (by rfl) hS (fun w2 hw2 => ?ry15) ?rr15
        case ry15 => ((try dsimp only at hw2); go_simp <;> with_reducible rfl)
        simp only [Act.put, List.setIfInBounds_toArray, List.set_cons_zero, List.set_cons_succ]
        refine rg_take 14 (v := ?rv16) rfl (by kernel_rfl) (by kernel_rfl) (by kernel_rfl) (fun _ _ _ h => h) (by rfl) hS (fun w2 hw2 => ?ry16) ?rr16
        case ry16 => ((try dsimp only at hw2); go_simp <;> with_reducible rfl)
        simp only [Act.put, List.setIfInBounds_toArray, List.set_cons_zero, List.set_cons_succ]
        refine rg_take 13 (v := ?rv17) rfl (by kernel_rfl) (by kernel_rfl) (by kernel_rfl) (fun _ _ _ h => h) (by rfl) hS (fun w2 hw2 => ?ry17) ?rr17
        case ry17 => ((try dsimp only at hw2); go_simp <;> with_reducible rfl)
        simp only [Act.put, List.setIfInBounds_toArray, List.set_cons_zero, List.set_cons_succ]
        refine rg_take 15 (v := ?rv18) rfl (by kernel_rfl) (by kernel_rfl) (by kernel_rfl) (fun _ _ _ h => h) (by rfl) hS (fun w2 hw2 => ?ry18) ?rr18
        case ry18 => ((try dsimp only at hw2); go_simp <;> with_reducible rfl)
        simp only [Act.put, List.setIfInBounds_toArray, List.set_cons_zero, List.set_cons_succ]
        refine rg_done (by kernel_rfl) ?_
        have HS := Lib.hid hS
        clear hS
        go_wp2_with fail
        exact bodyPost_ret (v := .tuple #[.int .i64 (k1 : Int), .bool _]) (by simp [results, Tryd.results43, go_sem]; try rfl) rfl ⟨k1, _, rfl, HP.out, HBX.out.2.trans (HS.out.mono HBX.out.2.size)⟩
      · go_wp2_with fail
        refine rg_begin (fun w' => Below W.heap.size W w') 16 (by kernel_rfl) rfl ?_
        refine rg_take 0 (v := ?rv19) rfl (by kernel_rfl) (by kernel_rfl) (by kernel_rfl) (fun _ _ _ h => h) (by rfl) hS (fun w2 hw2 => ?ry19) ?rr19
        case ry19 => ((try dsimp only at hw2); go_simp <;> with_reducible rfl)
        simp only [Act.put, List.setIfInBounds_toArray, List.set_cons_zero, List.set_cons_succ]
        refine rg_take 1 (v := ?rv20) rfl (by kernel_rfl) (by kernel_rfl) (by kernel_rfl) (fun _ _ _ h => h) (by rfl) hS (fun w2 hw2 => ?ry20) ?rr20
        case ry20 => ((try dsimp only at hw2); go_simp <;> with_reducible rfl)
        simp only [Act.put, List.setIfInBounds_toArray, List.set_cons_zero, List.set_cons_succ]
        refine rg_take 2 (v := ?rv21) rfl (by kernel_rfl) (by kernel_rfl) (by kernel_rfl) (fun _ _ _ h => h) (by rfl) hS (fun w2 hw2 => ?ry21) ?rr21
        case ry21 => ((try dsimp only at hw2); go_simp <;> with_reducible rfl)
        simp only [Act.put, List.setIfInBounds_toArray, List.set_cons_zero, List.set_cons_succ]
        refine rg_take 3 (v := ?rv22) rfl (by kernel_rfl) (by kernel_rfl) (by kernel_rfl) (fun _ _ _ h => h) (by rfl) hS (fun w2 hw2 => ?ry22) ?rr22
        case ry22 => ((try dsimp only at hw2); go_simp <;> with_reducible rfl)
        simp only [Act.put, List.setIfInBounds_toArray, List.set_cons_zero, List.set_cons_succ]
        refine rg_take 4 (v := ?rv23) rfl (by kernel_rfl) (by kernel_rfl) (by kernel_rfl) (fun _ _ _ h => h) (by rfl) hS (fun w2 hw2 => ?ry23) ?rr23
        case ry23 => ((try dsimp only at hw2); go_simp <;> with_reducible rfl)
        simp only [Act.put, List.setIfInBounds_toArray, List.set_cons_zero, List.set_cons_succ]
        refine rg_skip 5 rfl (by kernel_rfl) (by kernel_rfl) (by kernel_rfl) (fun _ _ _ h => h) (by rfl) hS ?_
        simp only [Act.put, List.setIfInBounds_toArray, List.set_cons_zero, List.set_cons_succ]
        refine rg_skip 6 rfl (by kernel_rfl) (by kernel_rfl) (by kernel_rfl) (fun _ _ _ h => h) (by rfl) hS ?_
        simp only [Act.put, List.setIfInBounds_toArray, List.set_cons_zero, List.set_cons_succ]
        refine rg_skip 7 rfl (by kernel_rfl) (by kernel_rfl) (by kernel_rfl) (fun _ _ _ h => h) (by rfl) hS ?_
        simp only [Act.put, List.setIfInBounds_toArray, List.set_cons_zero, List.set_cons_succ]
        refine rg_skip 8 rfl (by kernel_rfl) (by kernel_rfl) (by kernel_rfl) (fun _ _ _ h => h) (by rfl) hS ?_
        simp only [Act.put, List.setIfInBounds_toArray, List.set_cons_zero, List.set_cons_succ]
        refine rg_skip 9 rfl (by kernel_rfl) (by kernel_rfl) (by kernel_rfl) (fun _ _ _ h => h) (by rfl) hS ?_
        simp only [Act.put, List.setIfInBounds_toArray, List.set_cons_zero, List.set_cons_succ]
        refine rg_skip 10 rfl (by kernel_rfl) (by kernel_rfl) (by kernel_rfl) (fun _ _ _ h => h) (by rfl) hS ?_
        simp only [Act.put, List.setIfInBounds_toArray, List.set_cons_zero, List.set_cons_succ]
        refine rg_skip 11 rfl (by kernel_rfl) (by kernel_rfl) (by kernel_rfl) (fun _ _ _ h => h) (by rfl) hS ?_
        simp only [Act.put, List.setIfInBounds_toArray, List.set_cons_zero, List.set_cons_succ]
        refine rg_skip 12 rfl (by kernel_rfl) (by kernel_rfl) (by kernel_rfl) (fun _ _ _ h => h) (by rfl) hS ?_
        simp only [Act.put, List.setIfInBounds_toArray, List.set_cons_zero, List.set_cons_succ]
        refine rg_take 14 (v := ?rv24) rfl (by kernel_rfl) (by kernel_rfl) (by kernel_rfl) (fun _ _ _ h => h) (by rfl) hS (fun w2 hw2 => ?ry24) ?rr24
        case ry24 => ((try dsimp only at hw2); go_simp <;> with_reducible rfl)
        simp only [Act.put, List.setIfInBounds_toArray, List.set_cons_zero, List.set_cons_succ]
        refine rg_take 13 (v := ?rv25) rfl (by kernel_rfl) (by kernel_rfl) (by kernel_rfl) (fun _ _ _ h => h) (by rfl) hS (fun w2 hw2 => ?ry25) ?rr25
        case ry25 => ((try dsimp only at hw2); go_simp <;> with_reducible rfl)
        simp only [Act.put, List.setIfInBounds_toArray, List.set_cons_zero, List.set_cons_succ]
        refine rg_take 15 (v := ?rv26) rfl (by kernel_rfl) (by kernel_rfl) (by kernel_rfl) (fun _ _ _ h => h) (by rfl) hS (fun w2 hw2 => ?ry26) ?rr26
        case ry26 => ((try dsimp only at hw2); go_simp <;> with_reducible rfl)
        simp only [Act.put, List.setIfInBounds_toArray, List.set_cons_zero, List.set_cons_succ]
        refine rg_done (by kernel_rfl) ?_
        have HS := Lib.hid hS
        clear hS
        go_wp2_with fail
        exact bodyPost_ret (v := .tuple #[.int .i64 (k1 : Int), .bool _]) (by simp [results, Tryd.results43, go_sem]; try rfl) rfl ⟨k1, _, rfl, HP.out, HBX.out.2.trans (HS.out.mono HBX.out.2.size)⟩
-->>
end Go.Proofs.YtdpmjbhkmfjpfaaDoor
