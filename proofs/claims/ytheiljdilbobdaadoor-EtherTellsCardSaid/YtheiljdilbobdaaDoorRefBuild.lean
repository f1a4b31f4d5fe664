/-
  stockaderef01.BuildEther: the document's own answers. Conditions: those of the slices; the tags stand in memory.
-/
import Derived.Test.YtheiljdilbobdaaDoorRefEther
import Derived.Test.YtheiljdilbobdaaDoorRefPut
import Derived.Test.YtheiljdilbobdaaDoorReg
namespace Go.Proofs.YtheiljdilbobdaaDoor
open Go.RowKit

/-- So far nothing is wrong. -/
def okTo (kind : Int) (zs : List Int) (k : Nat) : Prop := fit kind ∧ kind ≠ 33024 ∧ zs.length ≤ 2 ∧ ∀ z ∈ zs.take k, fit z
instance (kind : Int) (zs : List Int) (k : Nat) : Decidable (okTo kind zs k) := by unfold okTo; infer_instance
theorem okTo_none {kind : Int} {zs : List Int} {k n : Nat} (h : ¬ okTo kind zs k) : ¬ mayBuild kind zs n := fun hm => h ⟨hm.1, hm.2.1, hm.2.2.1, fun z hz => hm.2.2.2.1 z (List.mem_of_mem_take hz)⟩
theorem okTo_step {kind z : Int} {zs : List Int} {k : Nat} (h : okTo kind zs k) (hz : zs[k]? = some z) : okTo kind zs (k + 1) ↔ fit z := by
  unfold okTo
  rw [List.take_add_one, hz]
  constructor
  · intro hh; exact hh.2.2.2 z (by simp)
  · intro hf
    refine ⟨h.1, h.2.1, h.2.2.1, fun y hy => ?_⟩
    rcases List.mem_append.1 hy with hy | hy
    · exact h.2.2.2 y hy
    · obtain rfl : y = z := by simpa using hy
      exact hf

theorem own_far {w : World} {base n size : Nat} {e : TypeId} {v : Value} {xs : List Value} (h : w.ownsRow base e size v n xs) {p : Addr} (hp : p.block < base) (x : Value) : (w.setCell p x).ownsRow base e size v n xs := by
  refine ⟨h.1, ?_⟩
  rcases h.2 with h | ⟨g, cap, cur, e1, h1, h2, h3⟩
  · exact .inl h
  · exact .inr ⟨g, cap, cur, e1, h1, (Below.heap_setCell w p x g (by omega)).trans h2, h3⟩
theorem Box.under {w w' : World} {B g : Nat} {f : Fl} (h : Box w g f) (hb : Below B w w') (hg : g < B) : Box w' g f := (hb.block g hg).trans h

set_option maxRecDepth 100000 in
set_option maxHeartbeats 2000000 in
theorem ref_build {A B : Option Addr} {n c m d : Nat} {l : List UInt8} {zs : List Int} {w : World} (kind : Int) (hz : Zs w B m zs) (hb : Bs w A n c l) (h47 : n ≤ 140737488350000) : Calls Tryd.prog 11 #[.int .i64 kind, .slice B m d, .slice A n c] w fun e w' =>
    ∃ A' n' c', e = .returned (.tuple #[.slice A' n' c', (builte kind zs n).v]) ∧ Bs w' A' n' c' (buildv kind zs l n) ∧ Below w.heap.size w w' := by
  have hm := Nat.le_trans hb.cap hb.max
  have hm2 := hz.2.1
  have hzl := hz.1
  unfold maxLen at hm hm2
  have HB := Lib.hid (And.intro hb hz)
  have HL := Lib.hid hzl
  clear hb hz
  obtain ⟨i0, hi, hz0, hz1, hz2⟩ := info_parts info5
  have HI := Lib.hid (And.intro hi (And.intro hz0 (And.intro hz1 hz2)))
  clear hi hz0 hz1 hz2
  have H0 := Lib.hid (And.intro (Box.new w 0 0 false) ((Below.refl _ w).alloc (Nat.le_refl _) (.cells #[.int .i64 0, .int .i64 0, .bool false] 32)))
  by_cases hok0 : okTo kind zs 0
  case neg =>
    have HNO := Lib.hid (okTo_none (n := n) hok0)
    have hcs : kind < 0 ∨ (0 ≤ kind ∧ 65535 < kind) ∨ (0 ≤ kind ∧ kind ≤ 65535 ∧ kind = 33024) ∨ (0 ≤ kind ∧ kind ≤ 65535 ∧ ¬ kind = 33024 ∧ 2 < m) := by
      unfold okTo fit at hok0
      simp only [List.take_zero, List.not_mem_nil, false_implies, implies_true, and_true, hzl] at hok0
      omega
    clear hok0 hzl
    rcases hcs with h1 | ⟨h1, h2⟩ | ⟨h1, h2, h3⟩ | ⟨h1, h2, h3, h4⟩
    all_goals
      go_enter Tryd.func11, Tryd.ntmps11
      go_wp2_with (refine wpList_make_full _ rfl (.const (.int .i64 12)) (.const (.int .i64 12)) 22 rfl w.heap.size 5 i0 _ 1 Tryd.underlying22 HI.out.1 HI.out.2.1 HI.out.2.2.1 .i64 .i64 _ _ 12 rfl rfl rfl rfl (by rw [HI.out.2.2.2]; omega) (by unfold maxLen; omega) H0.out.2.size ?_; intro w1 o1 g1; have H1 := Lib.hid (And.intro o1 (below_of_grown g1)); clear o1 g1)
      have H2 := Lib.hid (And.intro (H0.out.1.later H1.out.2 (Nat.le_refl _)) (H0.out.2.trans (H1.out.2.mono H0.out.2.size)))
      go_loopw [8, 10] (fun bd i wr => bd = .bool true ∧ i = .int .i64 0 ∧ wr = w1) (fun _ _ _ => 0)
      case atStart => exact ⟨by first | rfl | (refine congrArg Value.bool ?_; simp only [Bool.or_eq_true, decide_eq_true_eq, beq_iff_eq]; omega), rfl, rfl⟩
      case round =>
        obtain ⟨rfl, rfl, rfl⟩ := hrel
        have HR := H2
        rcases Nat.eq_zero_or_pos m with hm0 | hm0
        · subst hm0
          try (exfalso; omega)
          all_goals
            go_wp2_with fail
            refine (help_bare 1 _).mono ?_
            rintro e w9 ⟨rfl, b9⟩
            have hx9 := HR.out.1.later b9 (Nat.le_refl _)
            have HB9 := Lib.hid (HR.out.2.trans (b9.mono HR.out.2.size))
            obtain ⟨d0, d1, d2⟩ := hx9.cells
            have f0 := hx9.frozen 0
            have f1 := hx9.frozen 1
            have f2 := hx9.frozen 2
            clear b9 hx9
            go_wp2_with fail
            exact bodyPost_ret (v := .tuple #[.slice none 0 0, .agg #[.int .i64 1, .int .i64 0, .bool false]]) (by simp [results, Tryd.results11, go_sem, d0, d1, d2]) rfl ⟨_, _, _, by rw [(build_no (l := l) HNO.out).2]; rfl, by rw [(build_no (l := l) HNO.out).1]; exact Bs.nil _, below_set3 HB9.out (Nat.le_refl _) _ _ _⟩
        · have hm0' : (0 : Int) < (m : Int) := by omega
          go_wp2_with fail
          refine (help_bare 1 _).mono ?_
          rintro e w9 ⟨rfl, b9⟩
          have hx9 := HR.out.1.later b9 (Nat.le_refl _)
          have HB9 := Lib.hid (HR.out.2.trans (b9.mono HR.out.2.size))
          obtain ⟨d0, d1, d2⟩ := hx9.cells
          have f0 := hx9.frozen 0
          have f1 := hx9.frozen 1
          have f2 := hx9.frozen 2
          clear b9 hx9
          go_wp2_with fail
          exact bodyPost_ret (v := .tuple #[.slice none 0 0, .agg #[.int .i64 1, .int .i64 0, .bool false]]) (by simp [results, Tryd.results11, go_sem, d0, d1, d2]) rfl ⟨_, _, _, by rw [(build_no (l := l) HNO.out).2]; rfl, by rw [(build_no (l := l) HNO.out).1]; exact Bs.nil _, below_set3 HB9.out (Nat.le_refl _) _ _ _⟩
  have hm3 : m ≤ 2 := by rw [← hzl]; exact hok0.2.2.1
  have hfk := hok0.1
  unfold fit at hfk
  obtain ⟨hk0, hk1⟩ := hfk
  have hk2 : ¬ kind = 33024 := hok0.2.1
  have HOK := Lib.hid hok0
  clear hok0 hzl
  go_enter Tryd.func11, Tryd.ntmps11
  go_wp2_with (refine wpList_make_full _ rfl (.const (.int .i64 12)) (.const (.int .i64 12)) 22 rfl w.heap.size 5 i0 _ 1 Tryd.underlying22 HI.out.1 HI.out.2.1 HI.out.2.2.1 .i64 .i64 _ _ 12 rfl rfl rfl rfl (by rw [HI.out.2.2.2]; omega) (by unfold maxLen; omega) H0.out.2.size ?_; intro w1 o1 g1; have H1 := Lib.hid (And.intro o1 (below_of_grown g1)); clear o1 g1)
  have hz12 : (madeCells (Value.int IntKind.u8 0).cells (12 * 1)).toList = bv zero12 := by kernel_rfl
  have ho := H1.out.1
  rw [hz12] at ho
  have H2 := Lib.hid (And.intro ho (And.intro (H0.out.1.later H1.out.2 (Nat.le_refl _)) (H0.out.2.trans (H1.out.2.mono H0.out.2.size))))
  clear hz12 ho
  go_loopw [8, 9, 10] (fun bd h i wr => ∃ k : Nat, k ≤ m ∧ i = .int .i64 k ∧ bd = .bool (decide (¬ okTo kind zs k)) ∧ wr.ownsRow w.heap.size 5 1 h (12 + 4 * k) (bv (zero12 ++ tagsv (zs.take k))) ∧ Box wr w.heap.size ⟨0, 0, false⟩ ∧ Below w.heap.size w wr) (fun _ _ i _ => m - (intOf i).toNat)
  case atStart => exact ⟨0, Nat.zero_le _, rfl, by rw [decide_eq_false (show ¬ ¬ okTo kind zs 0 from fun h => h HOK.out)]; first | rfl | (refine congrArg Value.bool ?_; rw [Bool.eq_false_iff]; simp only [ne_eq, Bool.or_eq_true, decide_eq_true_eq, beq_iff_eq]; omega), by simpa [tagsv] using H2.out.1, H2.out.2.1, H2.out.2.2⟩
  case round =>
    obtain ⟨k, hkm, rfl, rfl, ho, hx, hb⟩ := hrel
    obtain ⟨A1, c1, rfl, hB1⟩ := Bs.of_own ho
    have hsz := hb.size
    by_cases hok : okTo kind zs k
    · rw [decide_eq_false (show ¬ ¬ okTo kind zs k from fun h => h hok)]
      by_cases hlt : k < m
      · obtain ⟨z, hzk⟩ : ∃ z, zs[k]? = some z := ⟨zs[k]'(by rw [HL.out]; exact hlt), List.getElem?_eq_getElem _⟩
        obtain ⟨b, off, rfl, hc⟩ := (HB.out.2.later hb (Nat.le_refl _)).2.2 k z hzk
        have hst := okTo_step hok hzk
        have hcB : ∀ w', Below wr.heap.size wr w' → w'.cell? ⟨b, off + k, none⟩ = some (.int .i64 z) := fun w' h => by
          rw [h.cell (p := ⟨b, off + k, none⟩) (lt_of_cell hc), hc]
        have HZ := Lib.hid (And.intro (tagsv_take hzk) (And.intro hB1 (And.intro hb (And.intro hx hst))))
        clear hB1 hb ho hx hok hst
        rcases (show z < 0 ∨ (0 ≤ z ∧ 65535 < z) ∨ (0 ≤ z ∧ z ≤ 65535) by omega) with hz0 | ⟨hz0, hz1⟩ | ⟨hz0, hz1⟩
        · go_wp2_with fail
          have hS : Below wr.heap.size wr wr.drew := (Below.refl _ _).drew
          refine rg_begin (fun w' => Below wr.heap.size wr w') 8 (by kernel_rfl) rfl ?_
          refine rg_take 0 (v := ?rv1) rfl (by kernel_rfl) (by kernel_rfl) (by kernel_rfl) (fun _ _ _ h => h) (by rfl) hS (fun w2 hw2 => ?ry1) ?rr1
          case ry1 => ((try dsimp only at hw2); go_simp <;> with_reducible rfl)
          simp only [Act.put, List.setIfInBounds_toArray, List.set_cons_zero, List.set_cons_succ]
          refine rg_take 2 (v := ?rv2) rfl (by kernel_rfl) (by kernel_rfl) (by kernel_rfl) (fun _ _ _ h => h) (by rfl) hS (fun w2 hw2 => ?ry2) ?rr2
          case ry2 => ((try dsimp only at hw2); go_simp <;> with_reducible rfl)
          simp only [Act.put, List.setIfInBounds_toArray, List.set_cons_zero, List.set_cons_succ]
          refine rg_take 3 (v := ?rv3) rfl (by kernel_rfl) (by kernel_rfl) (by kernel_rfl) (fun _ _ _ h => h) (by rfl) hS (fun w2 hw2 => ?ry3) ?rr3
          case ry3 => ((try dsimp only at hw2); go_simp <;> with_reducible rfl)
          simp only [Act.put, List.setIfInBounds_toArray, List.set_cons_zero, List.set_cons_succ]
          refine rg_take 4 (v := ?rv4) rfl (by kernel_rfl) (by kernel_rfl) (by kernel_rfl) (fun _ _ _ h => h) (by rfl) hS (fun w2 hw2 => ?ry4) ?rr4
          case ry4 => ((try dsimp only at hw2); go_simp <;> with_reducible rfl)
          simp only [Act.put, List.setIfInBounds_toArray, List.set_cons_zero, List.set_cons_succ]
          refine rg_take 5 (v := ?rv5) rfl (by kernel_rfl) (by kernel_rfl) (by kernel_rfl) (fun _ _ _ h => h) (by rfl) hS (fun w2 hw2 => ?ry5) ?rr5
          case ry5 => ((try dsimp only at hw2); go_simp <;> with_reducible rfl)
          simp only [Act.put, List.setIfInBounds_toArray, List.set_cons_zero, List.set_cons_succ]
          refine rg_step 1 rfl (by kernel_rfl) (by rfl) (fun K hK => ?_)
          go_simp
          refine (ref_put (HZ.out.2.1.later hS (Nat.le_refl _)) 33024 2 (by omega) (by omega)).mono ?_
          rintro e w2 ⟨v2, rfl, o2, b2⟩
          obtain ⟨A2, c2, rfl, hB2⟩ := Bs.of_own o2
          replace hS := hS.trans (b2.mono hS.size)
          have H3 := Lib.hid hB2
          clear b2 o2 hB2
          refine hK.out _ _ hS ?_
          clear hK K
          try simp only [Act.put, List.setIfInBounds_toArray, List.set_cons_zero, List.set_cons_succ]
          refine rg_step 6 rfl (by kernel_rfl) (by rfl) (fun K hK => ?_)
          go_simp
          refine (ref_put H3.out z 2 (by omega) (by omega)).mono ?_
          rintro e w3 ⟨v3, rfl, o3, b3⟩
          have H4 := Lib.hid (And.intro (owns_base o3 (Nat.le_trans hsz hS.size)) (HZ.out.2.2.1.trans ((hS.trans (b3.mono hS.size)).mono hsz)))
          replace hS := hS.trans (b3.mono hS.size)
          have H5 := Lib.hid (HZ.out.2.2.2.1.later hS (Nat.le_refl _))
          clear b3 o3
          refine hK.out _ _ hS ?_
          clear hK K
          try simp only [Act.put, List.setIfInBounds_toArray, List.set_cons_zero, List.set_cons_succ]
          refine rg_take 7 (v := ?rv6) rfl (by kernel_rfl) (by kernel_rfl) (by kernel_rfl) (fun _ _ _ h => h) (by rfl) hS (fun w2 hw2 => ?ry6) ?rr6
          case ry6 => ((try dsimp only at hw2); go_simp <;> with_reducible rfl)
          simp only [Act.put, List.setIfInBounds_toArray, List.set_cons_zero, List.set_cons_succ]
          refine rg_done (by kernel_rfl) ?_
          clear hS
          have hnew : decide (¬ okTo kind zs (k + 1)) = true := by
            first
              | exact decide_eq_true (fun h => by have := HZ.out.2.2.2.2.1 h; unfold fit at this; omega)
              | exact decide_eq_false (fun h => h (HZ.out.2.2.2.2.2 ⟨hz0, hz1⟩))
          go_wp2_with fail
          refine ⟨⟨k + 1, hlt, by go_num, by first | (rw [hnew]; done) | (rw [hnew]; refine congrArg Value.bool ?_; rw [Bool.eq_false_iff]; simp only [ne_eq, Bool.or_eq_true, decide_eq_true_eq]; omega), ?_, H5.out, H4.out.2⟩, by simp [intOf]; omega⟩
          rw [HZ.out.1, ← List.append_assoc, ← List.append_assoc]
          exact owns_n (by omega) H4.out.1
        · go_wp2_with fail
          have hS : Below wr.heap.size wr wr.drew := (Below.refl _ _).drew
          refine rg_begin (fun w' => Below wr.heap.size wr w') 8 (by kernel_rfl) rfl ?_
          refine rg_take 0 (v := ?rv7) rfl (by kernel_rfl) (by kernel_rfl) (by kernel_rfl) (fun _ _ _ h => h) (by rfl) hS (fun w2 hw2 => ?ry7) ?rr7
          case ry7 => ((try dsimp only at hw2); go_simp <;> with_reducible rfl)
          simp only [Act.put, List.setIfInBounds_toArray, List.set_cons_zero, List.set_cons_succ]
          refine rg_take 2 (v := ?rv8) rfl (by kernel_rfl) (by kernel_rfl) (by kernel_rfl) (fun _ _ _ h => h) (by rfl) hS (fun w2 hw2 => ?ry8) ?rr8
          case ry8 => ((try dsimp only at hw2); go_simp <;> with_reducible rfl)
          simp only [Act.put, List.setIfInBounds_toArray, List.set_cons_zero, List.set_cons_succ]
          refine rg_take 3 (v := ?rv9) rfl (by kernel_rfl) (by kernel_rfl) (by kernel_rfl) (fun _ _ _ h => h) (by rfl) hS (fun w2 hw2 => ?ry9) ?rr9
          case ry9 => ((try dsimp only at hw2); go_simp <;> with_reducible rfl)
          simp only [Act.put, List.setIfInBounds_toArray, List.set_cons_zero, List.set_cons_succ]
          refine rg_take 4 (v := ?rv10) rfl (by kernel_rfl) (by kernel_rfl) (by kernel_rfl) (fun _ _ _ h => h) (by rfl) hS (fun w2 hw2 => ?ry10) ?rr10
          case ry10 => ((try dsimp only at hw2); go_simp <;> with_reducible rfl)
          simp only [Act.put, List.setIfInBounds_toArray, List.set_cons_zero, List.set_cons_succ]
          refine rg_take 5 (v := ?rv11) rfl (by kernel_rfl) (by kernel_rfl) (by kernel_rfl) (fun _ _ _ h => h) (by rfl) hS (fun w2 hw2 => ?ry11) ?rr11
          case ry11 => ((try dsimp only at hw2); go_simp <;> with_reducible rfl)
          simp only [Act.put, List.setIfInBounds_toArray, List.set_cons_zero, List.set_cons_succ]
          refine rg_step 1 rfl (by kernel_rfl) (by rfl) (fun K hK => ?_)
          go_simp
          refine (ref_put (HZ.out.2.1.later hS (Nat.le_refl _)) 33024 2 (by omega) (by omega)).mono ?_
          rintro e w2 ⟨v2, rfl, o2, b2⟩
          obtain ⟨A2, c2, rfl, hB2⟩ := Bs.of_own o2
          replace hS := hS.trans (b2.mono hS.size)
          have H3 := Lib.hid hB2
          clear b2 o2 hB2
          refine hK.out _ _ hS ?_
          clear hK K
          try simp only [Act.put, List.setIfInBounds_toArray, List.set_cons_zero, List.set_cons_succ]
          refine rg_step 6 rfl (by kernel_rfl) (by rfl) (fun K hK => ?_)
          go_simp
          refine (ref_put H3.out z 2 (by omega) (by omega)).mono ?_
          rintro e w3 ⟨v3, rfl, o3, b3⟩
          have H4 := Lib.hid (And.intro (owns_base o3 (Nat.le_trans hsz hS.size)) (HZ.out.2.2.1.trans ((hS.trans (b3.mono hS.size)).mono hsz)))
          replace hS := hS.trans (b3.mono hS.size)
          have H5 := Lib.hid (HZ.out.2.2.2.1.later hS (Nat.le_refl _))
          clear b3 o3
          refine hK.out _ _ hS ?_
          clear hK K
          try simp only [Act.put, List.setIfInBounds_toArray, List.set_cons_zero, List.set_cons_succ]
          refine rg_take 7 (v := ?rv12) rfl (by kernel_rfl) (by kernel_rfl) (by kernel_rfl) (fun _ _ _ h => h) (by rfl) hS (fun w2 hw2 => ?ry12) ?rr12
          case ry12 => ((try dsimp only at hw2); go_simp <;> with_reducible rfl)
          simp only [Act.put, List.setIfInBounds_toArray, List.set_cons_zero, List.set_cons_succ]
          refine rg_done (by kernel_rfl) ?_
          clear hS
          have hnew : decide (¬ okTo kind zs (k + 1)) = true := by
            first
              | exact decide_eq_true (fun h => by have := HZ.out.2.2.2.2.1 h; unfold fit at this; omega)
              | exact decide_eq_false (fun h => h (HZ.out.2.2.2.2.2 ⟨hz0, hz1⟩))
          go_wp2_with fail
          refine ⟨⟨k + 1, hlt, by go_num, by first | (rw [hnew]; done) | (rw [hnew]; refine congrArg Value.bool ?_; rw [Bool.eq_false_iff]; simp only [ne_eq, Bool.or_eq_true, decide_eq_true_eq]; omega), ?_, H5.out, H4.out.2⟩, by simp [intOf]; omega⟩
          rw [HZ.out.1, ← List.append_assoc, ← List.append_assoc]
          exact owns_n (by omega) H4.out.1
        · go_wp2_with fail
          have hS : Below wr.heap.size wr wr.drew := (Below.refl _ _).drew
          refine rg_begin (fun w' => Below wr.heap.size wr w') 8 (by kernel_rfl) rfl ?_
          refine rg_take 0 (v := ?rv13) rfl (by kernel_rfl) (by kernel_rfl) (by kernel_rfl) (fun _ _ _ h => h) (by rfl) hS (fun w2 hw2 => ?ry13) ?rr13
          case ry13 => ((try dsimp only at hw2); go_simp <;> with_reducible rfl)
          simp only [Act.put, List.setIfInBounds_toArray, List.set_cons_zero, List.set_cons_succ]
          refine rg_take 2 (v := ?rv14) rfl (by kernel_rfl) (by kernel_rfl) (by kernel_rfl) (fun _ _ _ h => h) (by rfl) hS (fun w2 hw2 => ?ry14) ?rr14
          case ry14 => ((try dsimp only at hw2); go_simp <;> with_reducible rfl)
          simp only [Act.put, List.setIfInBounds_toArray, List.set_cons_zero, List.set_cons_succ]
          refine rg_take 3 (v := ?rv15) rfl (by kernel_rfl) (by kernel_rfl) (by kernel_rfl) (fun _ _ _ h => h) (by rfl) hS (fun w2 hw2 => ?ry15) ?rr15
          case ry15 => ((try dsimp only at hw2); go_simp <;> with_reducible rfl)
          simp only [Act.put, List.setIfInBounds_toArray, List.set_cons_zero, List.set_cons_succ]
          refine rg_take 4 (v := ?rv16) rfl (by kernel_rfl) (by kernel_rfl) (by kernel_rfl) (fun _ _ _ h => h) (by rfl) hS (fun w2 hw2 => ?ry16) ?rr16
          case ry16 => ((try dsimp only at hw2); go_simp <;> with_reducible rfl)
          simp only [Act.put, List.setIfInBounds_toArray, List.set_cons_zero, List.set_cons_succ]
          refine rg_take 5 (v := ?rv17) rfl (by kernel_rfl) (by kernel_rfl) (by kernel_rfl) (fun _ _ _ h => h) (by rfl) hS (fun w2 hw2 => ?ry17) ?rr17
          case ry17 => ((try dsimp only at hw2); go_simp <;> with_reducible rfl)
          simp only [Act.put, List.setIfInBounds_toArray, List.set_cons_zero, List.set_cons_succ]
          refine rg_step 1 rfl (by kernel_rfl) (by rfl) (fun K hK => ?_)
          go_simp
          refine (ref_put (HZ.out.2.1.later hS (Nat.le_refl _)) 33024 2 (by omega) (by omega)).mono ?_
          rintro e w2 ⟨v2, rfl, o2, b2⟩
          obtain ⟨A2, c2, rfl, hB2⟩ := Bs.of_own o2
          replace hS := hS.trans (b2.mono hS.size)
          have H3 := Lib.hid hB2
          clear b2 o2 hB2
          refine hK.out _ _ hS ?_
          clear hK K
          try simp only [Act.put, List.setIfInBounds_toArray, List.set_cons_zero, List.set_cons_succ]
          refine rg_step 6 rfl (by kernel_rfl) (by rfl) (fun K hK => ?_)
          go_simp
          refine (ref_put H3.out z 2 (by omega) (by omega)).mono ?_
          rintro e w3 ⟨v3, rfl, o3, b3⟩
          have H4 := Lib.hid (And.intro (owns_base o3 (Nat.le_trans hsz hS.size)) (HZ.out.2.2.1.trans ((hS.trans (b3.mono hS.size)).mono hsz)))
          replace hS := hS.trans (b3.mono hS.size)
          have H5 := Lib.hid (HZ.out.2.2.2.1.later hS (Nat.le_refl _))
          clear b3 o3
          refine hK.out _ _ hS ?_
          clear hK K
          try simp only [Act.put, List.setIfInBounds_toArray, List.set_cons_zero, List.set_cons_succ]
          refine rg_take 7 (v := ?rv18) rfl (by kernel_rfl) (by kernel_rfl) (by kernel_rfl) (fun _ _ _ h => h) (by rfl) hS (fun w2 hw2 => ?ry18) ?rr18
          case ry18 => ((try dsimp only at hw2); go_simp <;> with_reducible rfl)
          simp only [Act.put, List.setIfInBounds_toArray, List.set_cons_zero, List.set_cons_succ]
          refine rg_done (by kernel_rfl) ?_
          clear hS
          have hnew : decide (¬ okTo kind zs (k + 1)) = false := by
            first
              | exact decide_eq_true (fun h => by have := HZ.out.2.2.2.2.1 h; unfold fit at this; omega)
              | exact decide_eq_false (fun h => h (HZ.out.2.2.2.2.2 ⟨hz0, hz1⟩))
          go_wp2_with fail
          refine ⟨⟨k + 1, hlt, by go_num, by first | (rw [hnew]; done) | (rw [hnew]; refine congrArg Value.bool ?_; rw [Bool.eq_false_iff]; simp only [ne_eq, Bool.or_eq_true, decide_eq_true_eq]; omega), ?_, H5.out, H4.out.2⟩, by simp [intOf]; omega⟩
          rw [HZ.out.1, ← List.append_assoc, ← List.append_assoc]
          exact owns_n (by omega) H4.out.1
      · obtain rfl : k = m := by omega
        rw [List.take_of_length_le (by rw [HL.out]; exact Nat.le_refl _)] at hB1
        have hfit : ∀ z ∈ zs, fit z := by
          have := hok.2.2.2
          rw [List.take_of_length_le (by rw [HL.out]; exact Nat.le_refl _)] at this
          exact this
        have HZ := Lib.hid (And.intro hB1 (And.intro hb (And.intro hx hfit)))
        clear hB1 hb ho hx hok hfit
        by_cases hbig : 2000 < 14 + 4 * k + n
        · have HNO := Lib.hid (show ¬ mayBuild kind zs n from fun h => by have := h.2.2.2.2; have := HL.out; omega)
          have hq : (2000 : Int) < 12 + 4 * (k : Int) + 2 + (n : Int) := by omega
          have HR := Lib.hid (And.intro HZ.out.2.2.1 HZ.out.2.1)
          go_wp2_with fail
          refine (help_bare 1 _).mono ?_
          rintro e w9 ⟨rfl, b9⟩
          have hx9 := HR.out.1.later b9 (Nat.le_refl _)
          have HB9 := Lib.hid (HR.out.2.trans (b9.mono HR.out.2.size))
          obtain ⟨d0, d1, d2⟩ := hx9.cells
          have f0 := hx9.frozen 0
          have f1 := hx9.frozen 1
          have f2 := hx9.frozen 2
          clear b9 hx9
          go_wp2_with fail
          exact bodyPost_ret (v := .tuple #[.slice none 0 0, .agg #[.int .i64 1, .int .i64 0, .bool false]]) (by simp [results, Tryd.results11, go_sem, d0, d1, d2]) rfl ⟨_, _, _, by rw [(build_no (l := l) HNO.out).2]; rfl, by rw [(build_no (l := l) HNO.out).1]; exact Bs.nil _, below_set3 HB9.out (Nat.le_refl _) _ _ _⟩
        · have HY := Lib.hid (show mayBuild kind zs n from ⟨HOK.out.1, hk2, by rw [HL.out]; omega, HZ.out.2.2.2, by have := HL.out; omega⟩)
          have hq : ¬ (2000 : Int) < 12 + 4 * (k : Int) + 2 + (n : Int) := by omega
          go_wp2_with fail
          refine (ref_put HZ.out.1 kind 2 (by omega) (by omega)).mono ?_
          rintro e w2 ⟨v2, rfl, o2, b2⟩
          have hwr : w.heap.size < wr.heap.size := (Array.getElem?_eq_some_iff.1 HZ.out.2.2.1).1
          have hx2 := HZ.out.2.2.1.later b2 (Nat.le_refl _)
          have H3 := Lib.hid (And.intro o2 (And.intro (HZ.out.2.1.trans (b2.mono HZ.out.2.1.size)) (And.intro hx2 b2.size)))
          clear o2 b2 hx2
          go_wp2_with (at_builtin; refine wpList_append_bs rfl (.tmp 69) (.tmp 70) 22 rfl wr.heap.size 5 info5 Tryd.underlying22 _ _ _ rfl H3.out.1 A n c l rfl (HB.out.1.later H3.out.2.1 (Nat.le_refl _)) (by omega) H3.out.2.2.2 ?_; intro v3 w3 o3 g3 n3 a3; have b3 := (Below.refl wr.heap.size w2).grown g3 H3.out.2.2.2 (fun q hq => (H3.out.1.lt q hq).1); have hx3 := H3.out.2.2.1.under b3 hwr; obtain ⟨d0, d1, d2⟩ := hx3.cells; have f0 := hx3.frozen 0; have f1 := hx3.frozen 1; have f2 := hx3.frozen 2; have H4 := Lib.hid (And.intro o3 (H3.out.2.1.trans (b3.mono hsz))); clear o3 g3 n3 a3 b3 hx3)
          obtain ⟨A5, c5, rfl, hB5⟩ := Bs.of_own (own_far (own_far (own_far H4.out.1 (p := ⟨w.heap.size, 0, none⟩) hwr (.int .i64 0)) (p := ⟨w.heap.size, 1, none⟩) hwr (.int .i64 0)) (p := ⟨w.heap.size, 2, none⟩) hwr (.bool false))
          exact bodyPost_ret (v := .tuple #[.slice A5 (12 + 4 * k + 2 + n) c5, .agg #[.int .i64 0, .int .i64 0, .bool false]]) (by simp [results, Tryd.results11, go_sem, d0, d1, d2]) rfl ⟨_, _, _, by rw [(build_yes (l := l) HY.out).2]; rfl, by rw [(build_yes (l := l) HY.out).1]; exact hB5, below_set3 H4.out.2 (Nat.le_refl _) _ _ _⟩
    · rw [decide_eq_true (show ¬ okTo kind zs k from hok)]
      have HNO := Lib.hid (okTo_none (n := n) hok)
      have HR := Lib.hid (And.intro hx hb)
      clear hok hx hb ho hB1
      by_cases hlt : k < m
      · go_wp2_with fail
        refine (help_bare 1 _).mono ?_
        rintro e w9 ⟨rfl, b9⟩
        have hx9 := HR.out.1.later b9 (Nat.le_refl _)
        have HB9 := Lib.hid (HR.out.2.trans (b9.mono HR.out.2.size))
        obtain ⟨d0, d1, d2⟩ := hx9.cells
        have f0 := hx9.frozen 0
        have f1 := hx9.frozen 1
        have f2 := hx9.frozen 2
        clear b9 hx9
        go_wp2_with fail
        exact bodyPost_ret (v := .tuple #[.slice none 0 0, .agg #[.int .i64 1, .int .i64 0, .bool false]]) (by simp [results, Tryd.results11, go_sem, d0, d1, d2]) rfl ⟨_, _, _, by rw [(build_no (l := l) HNO.out).2]; rfl, by rw [(build_no (l := l) HNO.out).1]; exact Bs.nil _, below_set3 HB9.out (Nat.le_refl _) _ _ _⟩
      · obtain rfl : k = m := by omega
        go_wp2_with fail
        refine (help_bare 1 _).mono ?_
        rintro e w9 ⟨rfl, b9⟩
        have hx9 := HR.out.1.later b9 (Nat.le_refl _)
        have HB9 := Lib.hid (HR.out.2.trans (b9.mono HR.out.2.size))
        obtain ⟨d0, d1, d2⟩ := hx9.cells
        have f0 := hx9.frozen 0
        have f1 := hx9.frozen 1
        have f2 := hx9.frozen 2
        clear b9 hx9
        go_wp2_with fail
        exact bodyPost_ret (v := .tuple #[.slice none 0 0, .agg #[.int .i64 1, .int .i64 0, .bool false]]) (by simp [results, Tryd.results11, go_sem, d0, d1, d2]) rfl ⟨_, _, _, by rw [(build_no (l := l) HNO.out).2]; rfl, by rw [(build_no (l := l) HNO.out).1]; exact Bs.nil _, below_set3 HB9.out (Nat.le_refl _) _ _ _⟩
end Go.Proofs.YtheiljdilbobdaaDoor
