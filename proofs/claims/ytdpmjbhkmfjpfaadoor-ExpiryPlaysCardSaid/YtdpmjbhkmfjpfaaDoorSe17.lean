/-
  sort.Search over a queue's entries by when they end. Conditions: those of the slices.
-/
import Derived.Test.YtdpmjbhkmfjpfaaDoorSr17
namespace Go.Proofs.YtdpmjbhkmfjpfaaDoor
open Go.RowKit
set_option maxRecDepth 100000

/-- What a closure of Due sees. -/
structure Sees (w : World) (bq bn g : Nat) (A : Option Addr) (n c : Nat) (xs : List En) (now : Int) : Prop where
  q : w.cell? ⟨bq, 0, none⟩ = some (.pointer (some ⟨g, 0, none⟩))
  t : w.cell? ⟨bn, 0, none⟩ = some (.int .u64 now)
  o : w.cell? ⟨g, 1, none⟩ = some (.slice A n c)
  s : EnS w A n c xs
theorem Sees.later {B : Nat} {w w' : World} {bq bn g : Nat} {A : Option Addr} {n c : Nat} {xs : List En} {now : Int} (h : Sees w bq bn g A n c xs now) (hb : Below B w w') (hB : w.heap.size ≤ B) : Sees w' bq bn g A n c xs now :=
  ⟨(hb.cell (p := ⟨bq, 0, none⟩) (Nat.lt_of_lt_of_le (lt_of_cell' h.q) hB)).trans h.q, (hb.cell (p := ⟨bn, 0, none⟩) (Nat.lt_of_lt_of_le (lt_of_cell' h.t) hB)).trans h.t, (hb.cell (p := ⟨g, 1, none⟩) (Nat.lt_of_lt_of_le (lt_of_cell' h.o) hB)).trans h.o, h.s.later hb hB⟩
--<< later
set_option maxHeartbeats 1000000 in
theorem ends_any {w : World} {bq bn g : Nat} {A : Option Addr} {n c : Nat} {xs : List En} {now : Int} (h : Sees w bq bn g A n c xs now) {i : Nat} {e : En} (he : xs[i]? = some e) :
    Calls Tryd.prog 32 #[.int .i64 i, .pointer (some ⟨bq, 0, none⟩), .pointer (some ⟨bn, 0, none⟩)] w fun x w' => x = .returned (.bool (decide (now < e.at_))) ∧ Below w.heap.size w w' := by
  obtain ⟨ei, et⟩ := e
  have hi : (i : Int) < n := by
    have := (List.getElem?_eq_some_iff.1 he).1
    have := h.s.len
    omega
  obtain ⟨b, off, rfl, _, r2⟩ := h.s.here i _ he
  dsimp only at r2 ⊢
  have r1 := h.q
  have r3 := h.t
  have r4 := h.o
  have lq := lt_of_cell' r1
  have lt_ := lt_of_cell' r3
  have lg := lt_of_cell' r4
  have lb := lt_of_cell' r2
  have c1 : ∀ w', Below w.heap.size w w' → w'.cell? ⟨bq, 0, none⟩ = some (.pointer (some ⟨g, 0, none⟩)) := fun w' hb => (hb.cell (p := ⟨bq, 0, none⟩) lq).trans r1
  have c2 : ∀ w', Below w.heap.size w w' → w'.cell? ⟨bn, 0, none⟩ = some (.int .u64 now) := fun w' hb => (hb.cell (p := ⟨bn, 0, none⟩) lt_).trans r3
  have c3 : ∀ w', Below w.heap.size w w' → w'.cell? ⟨g, 1, none⟩ = some (.slice (some ⟨b, off, none⟩) n c) := fun w' hb => (hb.cell (p := ⟨g, 1, none⟩) lg).trans r4
  have c4 : ∀ w', Below w.heap.size w w' → w'.cell? ⟨b, off + i * 2 + 1, none⟩ = some (.int .u64 et) := fun w' hb => (hb.cell (p := ⟨b, off + i * 2 + 1, none⟩) lb).trans r2
  clear r1 r2 r3 r4 lq lt_ lg lb h he
  go_enter Tryd.func32, Tryd.ntmps32
  go_wp2_with fail
  have hS : Below w.heap.size w w.drew := below_of_drew (Below.refl _ _)
  refine rg_begin (fun w' => Below w.heap.size w w') 11 (by kernel_rfl) rfl ?_
  refine rg_take 0 (v := ?rv1) rfl (by kernel_rfl) (by kernel_rfl) (by kernel_rfl) (fun _ _ _ h => h) (by rfl) hS (fun w2 hw2 => ?ry1) ?rr1
  case ry1 => ((try dsimp only at hw2); go_simp <;> with_reducible rfl)
  simp only [Act.put, List.setIfInBounds_toArray, List.set_cons_zero, List.set_cons_succ]
  refine rg_take 4 (v := ?rv2) rfl (by kernel_rfl) (by kernel_rfl) (by kernel_rfl) (fun _ _ _ h => h) (by rfl) hS (fun w2 hw2 => ?ry2) ?rr2
  case ry2 => ((try dsimp only at hw2); go_simp <;> with_reducible rfl)
  simp only [Act.put, List.setIfInBounds_toArray, List.set_cons_zero, List.set_cons_succ]
  refine rg_take 8 (v := ?rv3) rfl (by kernel_rfl) (by kernel_rfl) (by kernel_rfl) (fun _ _ _ h => h) (by rfl) hS (fun w2 hw2 => ?ry3) ?rr3
  case ry3 => ((try dsimp only at hw2); go_simp <;> with_reducible rfl)
  simp only [Act.put, List.setIfInBounds_toArray, List.set_cons_zero, List.set_cons_succ]
  refine rg_take 1 (v := ?rv4) rfl (by kernel_rfl) (by kernel_rfl) (by kernel_rfl) (fun _ _ _ h => h) (by rfl) hS (fun w2 hw2 => ?ry4) ?rr4
  case ry4 => ((try dsimp only at hw2); go_simp <;> with_reducible rfl)
  simp only [Act.put, List.setIfInBounds_toArray, List.set_cons_zero, List.set_cons_succ]
  refine rg_take 2 (v := ?rv5) rfl (by kernel_rfl) (by kernel_rfl) (by kernel_rfl) (fun _ _ _ h => h) (by rfl) hS (fun w2 hw2 => ?ry5) ?rr5
  case ry5 => ((try dsimp only at hw2); go_simp <;> with_reducible rfl)
  simp only [Act.put, List.setIfInBounds_toArray, List.set_cons_zero, List.set_cons_succ]
  refine rg_take 3 (v := ?rv6) rfl (by kernel_rfl) (by kernel_rfl) (by kernel_rfl) (fun _ _ _ h => h) (by rfl) hS (fun w2 hw2 => ?ry6) ?rr6
  case ry6 => ((try dsimp only at hw2); go_simp <;> with_reducible rfl)
  simp only [Act.put, List.setIfInBounds_toArray, List.set_cons_zero, List.set_cons_succ]
  refine rg_take 5 (v := ?rv7) rfl (by kernel_rfl) (by kernel_rfl) (by kernel_rfl) (fun _ _ _ h => h) (by rfl) hS (fun w2 hw2 => ?ry7) ?rr7
  case ry7 => ((try dsimp only at hw2); go_simp <;> with_reducible rfl)
  simp only [Act.put, List.setIfInBounds_toArray, List.set_cons_zero, List.set_cons_succ]
  refine rg_take 6 (v := ?rv8) rfl (by kernel_rfl) (by kernel_rfl) (by kernel_rfl) (fun _ _ _ h => h) (by rfl) hS (fun w2 hw2 => ?ry8) ?rr8
  case ry8 => ((try dsimp only at hw2); go_simp <;> with_reducible rfl)
  simp only [Act.put, List.setIfInBounds_toArray, List.set_cons_zero, List.set_cons_succ]
  refine rg_take 7 (v := ?rv9) rfl (by kernel_rfl) (by kernel_rfl) (by kernel_rfl) (fun _ _ _ h => h) (by rfl) hS (fun w2 hw2 => ?ry9) ?rr9
  case ry9 => ((try dsimp only at hw2); go_simp <;> with_reducible rfl)
  simp only [Act.put, List.setIfInBounds_toArray, List.set_cons_zero, List.set_cons_succ]
  refine rg_take 9 (v := ?rv10) rfl (by kernel_rfl) (by kernel_rfl) (by kernel_rfl) (fun _ _ _ h => h) (by rfl) hS (fun w2 hw2 => ?ry10) ?rr10
  case ry10 => ((try dsimp only at hw2); go_simp <;> with_reducible rfl)
  simp only [Act.put, List.setIfInBounds_toArray, List.set_cons_zero, List.set_cons_succ]
  refine rg_take 10 (v := ?rv11) rfl (by kernel_rfl) (by kernel_rfl) (by kernel_rfl) (fun _ _ _ h => h) (by rfl) hS (fun w2 hw2 => ?ry11) ?rr11
  case ry11 => ((try dsimp only at hw2); go_simp <;> with_reducible rfl)
  simp only [Act.put, List.setIfInBounds_toArray, List.set_cons_zero, List.set_cons_succ]
  refine rg_done (by kernel_rfl) ?_
  go_wp2_with fail
  go_ret
  exact ⟨rfl, hS⟩
-->>
--<< search
theorem at_part {xs : List En} (hs : SortedE xs) {now : Int} {h : Nat} {m : En} (hm : xs[h]? = some m) (hl : ¬ now < m.at_) {k : Nat} {e : En} (hk : k < h + 1) (he : xs[k]? = some e) : e.at_ ≤ now := by
  by_cases hkh : k = h
  · subst hkh
    rw [hm] at he
    obtain rfl := Option.some.inj he
    omega
  · have := sorted_get hs he hm (by omega)
    unfold En.lt at this
    omega
theorem at_part' {xs : List En} (hs : SortedE xs) {now : Int} {h : Nat} {m : En} (hm : xs[h]? = some m) (hl : now < m.at_) {k : Nat} {e : En} (hk : h ≤ k) (he : xs[k]? = some e) : now < e.at_ := by
  by_cases hkh : k = h
  · subst hkh
    rw [hm] at he
    obtain rfl := Option.some.inj he
    omega
  · have := sorted_get hs hm he (by omega)
    unfold En.lt at this
    omega
set_option maxHeartbeats 4000000 in
theorem search_any {w : World} {bq bn g : Nat} {A : Option Addr} {n c : Nat} {xs : List En} {now : Int} (hs : Sees w bq bn g A n c xs now) (hso : SortedE xs) :
    Calls Tryd.prog 31 #[.int .i64 n, .func (.func 32) #[] #[.pointer (some ⟨bq, 0, none⟩), .pointer (some ⟨bn, 0, none⟩)]] w fun e w' => ∃ i : Nat, e = .returned (.int .i64 i) ∧ Parts xs (fun e => e.at_ ≤ now) i ∧ Below w.heap.size w w' := by
  have hcap := hs.s.cap
  have hmax := hs.s.max
  unfold maxLen at hmax
  have hlen := hs.s.len
  have HB := Lib.hid (And.intro hs hso)
  clear hs hso
  go_enter Tryd.func31, Tryd.ntmps31
  go_wp2_with fail
  go_loopw [5, 6] (fun i j wr => ∃ k1 k2 : Nat, k1 ≤ k2 ∧ k2 ≤ n ∧ i = .int .i64 k1 ∧ j = .int .i64 k2 ∧ (∀ (k : Nat) (e : En), xs[k]? = some e → k < k1 → e.at_ ≤ now) ∧ (∀ (k : Nat) (e : En), xs[k]? = some e → k2 ≤ k → now < e.at_) ∧ Below w.heap.size w wr) (fun i j _ => (intOf j).toNat - (intOf i).toNat)
  case atStart => exact ⟨0, n, Nat.zero_le _, Nat.le_refl _, rfl, rfl, fun k e _ h => absurd h (by omega), fun k e h1 h2 => by have := (List.getElem?_eq_some_iff.1 h1).1; omega, Below.refl _ _⟩
  case round =>
    obtain ⟨k1, k2, hk12, hk2, rfl, rfl, hlo, hhi, hbe⟩ := hrel
    have HX := Lib.hid (And.intro hlo (And.intro hhi hbe))
    clear hlo hhi hbe
    by_cases hlt : k1 < k2
    · obtain ⟨h, hh⟩ : ∃ h, h = (k1 + k2) / 2 := ⟨_, rfl⟩
      have hh1 : k1 ≤ h := by omega
      have hh2 : h < k2 := by omega
      have hmid : wrap64 (IntKind.u64.wrap (wrap64 ((k1 : Int) + (k2 : Int))) / 2) = (h : Int) := mid_eq k1 k2 h hh (by omega) (by omega)
      clear hh
      obtain ⟨m, hm⟩ : ∃ m, xs[h]? = some m := ⟨xs[h]'(by omega), List.getElem?_eq_getElem _⟩
      have HK := Lib.hid (ends_any (HB.out.1.later HX.out.2.2 (Nat.le_refl _)) hm)
      have HM := Lib.hid hm
      clear hm
      by_cases hc0 : now < m.at_
      · have HL := Lib.hid hc0
        rw [decide_eq_true hc0] at HK
        clear hc0
        go_wp2_with (refine HK.out.mono ?_; rintro e w1 ⟨rfl, hb⟩)
        have HS := Lib.hid (HX.out.2.2.trans (hb.mono HX.out.2.2.size))
        clear hb
        go_wp2_with fail
        refine ⟨⟨k1, h, hh1, by omega, rfl, rfl, HX.out.1, fun k e he hk => at_part' HB.out.2 HM.out HL.out hk he, HS.out⟩, by simp [intOf]; omega⟩
      · have HL := Lib.hid hc0
        rw [decide_eq_false hc0] at HK
        clear hc0
        go_wp2_with (refine HK.out.mono ?_; rintro e w1 ⟨rfl, hb⟩)
        have HS := Lib.hid (HX.out.2.2.trans (hb.mono HX.out.2.2.size))
        clear hb
        go_wp2_with fail
        refine ⟨⟨h + 1, k2, hh2, hk2, by go_num, rfl, fun k e he hk => at_part HB.out.2 HM.out (Int.not_lt.2 HL.out) hk he, HX.out.2.1, HS.out⟩, by simp [intOf]; omega⟩
    · obtain rfl : k1 = k2 := by omega
      clear hlt
      have HP : Hid (Parts xs (fun e => e.at_ ≤ now) k1) := by
        refine ⟨by omega, fun k e he => ⟨fun hk => HX.out.1 k e he hk, fun hl => ?_⟩⟩
        rcases Nat.lt_or_ge k k1 with h1 | h1
        · exact h1
        · have := HX.out.2.1 k e he h1
          omega
      go_wp2_with fail
      go_ret
      exact ⟨k1, rfl, HP.out, HX.out.2.2⟩
theorem search_zero (f : Value) (w : World) : Calls Tryd.prog 31 #[.int .i64 0, f] w fun e w' => e = .returned (.int .i64 0) ∧ w = w' := by
  go_enter Tryd.func31, Tryd.ntmps31
  go_wp2_with fail
  refine wp_loop_rounds 1 ?_
  rw [rounds_succ]
  go_wp2_with fail
  go_ret
  exact ⟨rfl, rfl⟩
-->>
end Go.Proofs.YtdpmjbhkmfjpfaaDoor
