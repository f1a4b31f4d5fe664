/-
  Package stockadelaw18's LexerWords: true, whatever the texts. No conditions.
-/
import Derived.Test.YtiggfoghogecjaaAw18
import Derived.Test.YtiggfoghogecjaaPurW18
import Derived.Test.YtiggfoghogecjaaInfoS
import Derived.Deep.DeepCutAuto
namespace Go.Proofs.Ytiggfoghogecjaa
open Go.RowKit
set_option maxRecDepth 100000

theorem num_modW (a : Int) (m : Int) (h0 : 0 < m) (h1 : m ≤ 1000000) : 0 ≤ wrap64 ((IntKind.u64.wrap a).tmod m) ∧ wrap64 ((IntKind.u64.wrap a).tmod m) < m := by
  have h : IntKind.u64.wrap a = a % 18446744073709551616 := rfl
  have h2 : 0 ≤ IntKind.u64.wrap a := by rw [h]; omega
  rw [Int.tmod_eq_emod_of_nonneg h2]
  have h3 := Int.emod_nonneg (IntKind.u64.wrap a) (show m ≠ 0 by omega)
  have h4 := Int.emod_lt_of_pos (IntKind.u64.wrap a) h0
  generalize IntKind.u64.wrap a % m = x at h3 h4
  unfold wrap64
  omega
theorem mkS_append (a b : List UInt8) : mkS a ++ mkS b = mkS (a ++ b) := by
  apply ByteArray.ext
  simp [mkS]
theorem mkS_empty {l : List UInt8} (h : l = []) : (mkS l).toList.isEmpty = true := by rw [h, Lib.toList_data, mkS_data]; rfl
theorem mkS_some {l : List UInt8} (h : l ≠ []) : (mkS l).toList.isEmpty = false := by
  rw [Lib.toList_data, mkS_data]
  cases l with
  | nil => exact absurd rfl h
  | cons _ _ => rfl
def mkSW (ls : List (List UInt8)) : List ByteArray := ls.map mkS
theorem gsW_at {w : World} {A : Option Addr} {n c : Nat} {ls : List (List UInt8)} (h : Gs w A n c (sv (mkSW ls))) {k : Nat} {x : List UInt8} (hx : ls[k]? = some x) : ∃ b off, A = some ⟨b, off, none⟩ ∧ w.cell? ⟨b, off + k, none⟩ = some (.string (mkS x)) :=
  h.get (by unfold sv mkSW; rw [List.map_map, List.getElem?_map, hx]; rfl)
theorem ext_one {s : ByteArray} {j : Nat} {x : UInt8} (h : s.data.toList[j]? = some x) : s.extract j (j + 1) = mkS [x] := by
  rw [← mkS_back (s.extract j (j + 1)), cut_piece, drop_at h, Nat.add_sub_cancel_left]
  rfl
set_option maxHeartbeats 8000000 in
theorem lexerWords {A : Option Addr} {n c : Nat} {xs : List ByteArray} {w : World} (h0 : Gs w A n c (sv xs)) (nb : Int) : Calls Try.prog 5 #[.slice A n c, .int .i64 nb] w fun e w' => e = .returned (.bool true) ∧ Below w.heap.size w w' := by
  have hcap := h0.cap
  have hmax := h0.max
  unfold maxLen at hmax
  have hlen := h0.len
  have HG := Lib.hid h0
  obtain ⟨q1, q2⟩ := num_modW nb 4 (by omega) (by omega)
  have hk4 : wrap64 ((IntKind.u64.wrap nb).tmod 4) = 0 ∨ wrap64 ((IntKind.u64.wrap nb).tmod 4) = 1 ∨ wrap64 ((IntKind.u64.wrap nb).tmod 4) = 2 ∨ wrap64 ((IntKind.u64.wrap nb).tmod 4) = 3 := by omega
  have HK := Lib.hid hk4
  clear h0 q1 q2 hk4
  go_enter Try.func5, Try.ntmps5
  go_upto_region 1 with fail
  go_cut [5] (fun b wx => ∃ l : List UInt8, b = .string (mkS l) ∧ l ≠ [] ∧ l.length ≤ 3 ∧ (∀ c ∈ l, blankB c = true) ∧ Below w.heap.size w wx)
  case first =>
    rcases HK.out with hk | hk | hk | hk
    · go_wp2_with fail
      go_meet
      exact ⟨[32], rfl, by decide, by decide, by decide, (Below.refl _ _).alloc (Nat.le_refl _) _⟩
    · go_wp2_with fail
      go_meet
      exact ⟨[9], rfl, by decide, by decide, by decide, (Below.refl _ _).alloc (Nat.le_refl _) _⟩
    · go_wp2_with fail
      go_meet
      exact ⟨[32, 32, 13], rfl, by decide, by decide, by decide, (Below.refl _ _).alloc (Nat.le_refl _) _⟩
    · go_wp2_with fail
      go_meet
      exact ⟨[32, 9, 32], rfl, by decide, by decide, by decide, (Below.refl _ _).alloc (Nat.le_refl _) _⟩
  case rest =>
    obtain ⟨bl, rfl, b1, b2, b3, hb⟩ := hcut
    have HB := Lib.hid (And.intro b1 (And.intro b3 hb))
    have hbs : (mkS bl).size = bl.length := mkS_size bl
    clear b1 b3 hb
    go_wp2_with fail
    go_loopw [6, 7, 8] (fun s v i wr => ∃ (ws : List (List UInt8)) (k : Nat), k ≤ n ∧ k ≤ 40 ∧ i = .int .i64 k ∧ s = .string (mkS (joinW bl ws)) ∧ (joinW bl ws).length ≤ k * 43 ∧ Hid (wr.ownsRow w.heap.size 9 1 v (fullW ws).length (sv (mkSW (fullW ws))) ∧ (fullW ws).length ≤ k ∧ (∀ u ∈ ws, ∀ c ∈ u, wordB c = true) ∧ Below w.heap.size w wr)) (fun _ _ i _ => n - (intOf i).toNat)
    case atStart => exact ⟨[], 0, Nat.zero_le _, Nat.zero_le _, rfl, rfl, Nat.zero_le _, World.ownsRow_nil _ _ _ _, Nat.zero_le _, (fun u h => by cases h), HB.out.2.2⟩
    case round =>
      obtain ⟨ws, k, hk, hk4, rfl, rfl, hjl, HX⟩ := hrel
      have hjs : (mkS (joinW bl ws)).size = (joinW bl ws).length := mkS_size _
      by_cases hlt : k < n ∧ k < 40
      · obtain ⟨hkn, hk40⟩ := hlt
        obtain ⟨x, hx⟩ : ∃ x, xs[k]? = some x := ⟨xs[k]'(by have := hlen; unfold sv at this; rw [List.length_map] at this; omega), List.getElem?_eq_getElem _⟩
        obtain ⟨b, off, rfl, hc0⟩ := HG.out.get (k := k) (x := .string x) (by unfold sv; rw [List.getElem?_map, hx]; rfl)
        have hc : wr.cell? ⟨b, off + k, none⟩ = some (.string x) := (HX.out.2.2.2.cell (p := ⟨b, off + k, none⟩) (lt_of_cell' hc0)).trans hc0
        clear hc0 hx
        go_wp2_with fail
        go_loop [9, 10] (fun u i => ∃ (q : List UInt8) (j : Nat), j ≤ x.size ∧ j ≤ 40 ∧ i = .int .i64 j ∧ u = .string (mkS q) ∧ q.length ≤ j ∧ Hid (∀ c ∈ q, wordB c = true)) (fun _ i => x.size - (intOf i).toNat)
        case atStart => exact ⟨[], 0, Nat.zero_le _, Nat.zero_le _, rfl, rfl, Nat.zero_le _, fun c h => by cases h⟩
        case round =>
          obtain ⟨q, j, hjx, hj40, rfl, rfl, hql, HQ⟩ := hrel
          have hqs : (mkS q).size = q.length := mkS_size q
          by_cases hjlt : j < x.size ∧ j < 40
          · obtain ⟨hj1, hj2⟩ := hjlt
            obtain ⟨y, hy, hsk⟩ := str_at (s := x) (i := j) hj1
            have hyl := y.toNat_lt
            by_cases hw : wordB y = true
            · have hcat : mkS q ++ x.extract j (j + 1) = mkS (q ++ [y]) := by rw [ext_one hy, mkS_append]
              have hes : (x.extract j (j + 1)).size = 1 := by rw [ext_one hy, mkS_size]; rfl
              have hn1 : ¬ 9223372036854775807 < q.length + 1 := by omega
              have HW := Lib.hid hw
              unfold wordB at hw
              simp only [Bool.and_eq_true, decide_eq_true_eq, bne_iff_ne] at hw
              obtain ⟨⟨w1_, w2_⟩, w3_⟩ := hw
              have e35 : ((y.toNat : Int) != 35) = true := by
                rw [bne_iff_ne]
                intro h
                apply w3_
                apply UInt8.toNat_inj.1
                show y.toNat = 35
                omega
              have g2 : (j : Int) + 1 ≤ x.size := by omega
              have g3 : (0 : Int) ≤ (j : Int) := by omega
              have g4 : (j : Int) ≤ (j : Int) + 1 := by omega
              clear hy w3_
              go_wp2_with fail
              refine ⟨⟨q ++ [y], j + 1, hj1, hj2, by go_num, rfl, by rw [List.length_append]; simp; omega, fun c hc => ?_⟩, by simp [intOf]; omega⟩
              rcases List.mem_append.1 hc with hc | hc
              · exact HQ.out c hc
              · obtain rfl := List.mem_singleton.1 hc
                exact HW.out
            · have hw' : y.toNat < 33 ∨ (33 ≤ y.toNat ∧ 126 < y.toNat) ∨ (33 ≤ y.toNat ∧ y.toNat ≤ 126 ∧ ((y.toNat : Int) != 35) = false) := by
                unfold wordB at hw
                simp only [Bool.and_eq_true, decide_eq_true_eq, bne_iff_ne] at hw
                by_cases c1 : y.toNat < 33
                · exact .inl c1
                by_cases c2 : 126 < y.toNat
                · exact .inr (.inl ⟨by omega, c2⟩)
                · refine .inr (.inr ⟨by omega, by omega, ?_⟩)
                  have : y = 35 := by
                    by_cases c3 : y = 35
                    · exact c3
                    · exact absurd ⟨⟨by omega, by omega⟩, c3⟩ hw
                  rw [this]
                  rfl
              clear hw hy
              rcases hw' with d1 | ⟨d1, d2⟩ | ⟨d1, d2, d3⟩
              all_goals
                go_wp2_with fail
                exact ⟨⟨q, j + 1, hj1, hj2, by go_num, rfl, by omega, HQ.out⟩, by simp [intOf]; omega⟩
          · have hj3 : ¬ j < x.size ∨ (j < x.size ∧ ¬ j < 40) := by omega
            have hcat : mkS (joinW bl ws) ++ mkS bl = mkS (joinW bl ws ++ bl) := mkS_append _ _
            have hcat2 : mkS (joinW bl ws ++ bl) ++ mkS q = mkS (joinW bl (ws ++ [q])) := by rw [mkS_append, joinW_snoc]
            have hms : (mkS (joinW bl ws ++ bl)).size = (joinW bl ws).length + bl.length := by rw [mkS_size, List.length_append]
            have hn1 : ¬ 9223372036854775807 < (joinW bl ws).length + bl.length := by omega
            have hn2 : ¬ 9223372036854775807 < (joinW bl ws).length + bl.length + q.length := by omega
            have hnl : (joinW bl (ws ++ [q])).length ≤ (k + 1) * 43 := by rw [joinW_snoc, List.length_append, List.length_append]; omega
            have hws : ∀ u ∈ ws ++ [q], ∀ c ∈ u, wordB c = true := fun u hu => by
              rcases List.mem_append.1 hu with hu | hu
              · exact HX.out.2.2.1 u hu
              · obtain rfl := List.mem_singleton.1 hu
                exact HQ.out
            have HN := Lib.hid (And.intro hnl hws)
            clear hjlt hnl hws
            have hf := fullW_snoc ws q
            by_cases hq : q = []
            · rw [if_pos hq] at hf
              have he := mkS_empty hq
              have HF := Lib.hid hf
              clear hf hq
              rcases hj3 with hj3 | ⟨hj3, hj5⟩
              all_goals
                go_wp2_with fail
                refine ⟨⟨ws ++ [q], k + 1, hkn, hk40, by go_num, rfl, HN.out.1, by rw [HF.out]; exact HX.out.1, by rw [HF.out]; have := HX.out.2.1; omega, HN.out.2, HX.out.2.2.2⟩, by simp [intOf]; omega⟩
            · rw [if_neg hq] at hf
              have he := mkS_some hq
              have HF := Lib.hid hf
              clear hf hq
              rcases hj3 with hj3 | ⟨hj3, hj5⟩
              all_goals
                go_wp2_with (at_builtin; refine wpList_append_gs rfl (.tmp 86) (.tmp 88) 33 rfl w.heap.size 9 infoStr rfl (by omega) Try.underlying33 _ _ _ rfl (HX.out.1.alloc _) _ 1 1 _ rfl (by exact Gs.lit _ [.string (mkS q)] 1 rfl (by unfold maxLen; omega) _ rfl _) (sv_one [mkS q]) (by have := HX.out.2.1; omega) (by have := HX.out.2.2.2.size; simp; omega) ?_; intro v2 w2 o2 g2)
                have hb2 : Below w.heap.size w w2 := (HX.out.2.2.2.alloc HX.out.2.2.2.size _).grown g2 (by have := HX.out.2.2.2.size; simp; omega) (fun q hq => (HX.out.1.lt q hq).1)
                refine ⟨⟨ws ++ [q], k + 1, hkn, hk40, by go_num, rfl, HN.out.1, ?_, by rw [HF.out, List.length_append]; have := HX.out.2.1; simp; omega, HN.out.2, hb2⟩, by simp [intOf]; omega⟩
                rw [HF.out, List.length_append]
                have e : sv (mkSW (fullW ws ++ [q])) = sv (mkSW (fullW ws)) ++ [.string (mkS q)] := by simp [sv, mkSW]
                rw [e]
                exact o2
      · obtain ⟨W0, hW0⟩ : ∃ W0, W0 = wr := ⟨_, rfl⟩
        subst hW0
        have hk3 : ¬ k < n ∨ (k < n ∧ ¬ k < 40) := by omega
        obtain ⟨ts, hlex, hl, hts⟩ := lexM_words bl HB.out.1 HB.out.2.1 ws HX.out.2.2.1 0 1
        have hne : ts ≠ [] := fun h => by rw [h] at hl; simp at hl
        have hcat : mkS (joinW bl ws) ++ mkS bl = mkS (joinW bl ws ++ bl) := mkS_append _ _
        have hn1 : ¬ 9223372036854775807 < (joinW bl ws).length + bl.length := by omega
        have K := tokens18 (mkS (joinW bl ws ++ bl)) (by rw [mkS_size, List.length_append]; omega) W0
        rw [mkS_data, hlex] at K
        obtain ⟨A2, c2, e2, hG2⟩ := Gs.of_own HX.out.1
        obtain ⟨m, hm⟩ : ∃ m, (fullW ws).length = m := ⟨_, rfl⟩
        rw [hm] at hl e2 hG2
        have hmk : m ≤ 40 := by have := HX.out.2.1; omega
        have HK2 := Lib.hid K
        have HT := Lib.hid (And.intro hts (And.intro hne (And.intro hl (And.intro hG2 hm))))
        have hcap2 := hG2.cap
        have hmax2 := hG2.max
        unfold maxLen at hmax2
        clear K hlex hts hne hG2 hl hlt
        subst e2
        rcases hk3 with hk3 | ⟨hk3, hk5⟩
        · go_wp2_with fail
          refine HK2.out.mono ?_
          rintro e w1 ⟨v, rfl, ⟨rv, rfl, ho⟩, hb1⟩
          obtain ⟨g, c3, rfl, hc⟩ := ho.head HT.out.2.1
          rw [HT.out.2.2.1]
          have HO := Lib.hid (And.intro hc hb1)
          have K2 := Lib.hid (awake18 w1)
          clear ho hc hb1
          go_wp2_with fail
          refine K2.out.mono ?_
          rintro e w2 ⟨rfl, hb2⟩
          have HB2 := Lib.hid hb2
          clear hb2
          go_wp2_with fail
          go_loopw [13] (fun i wr => ∃ j : Nat, j ≤ m ∧ i = .int .i64 j ∧ Hid (Below w1.heap.size w1 wr)) (fun i _ => m - (intOf i).toNat)
          case atStart => exact ⟨0, Nat.zero_le _, rfl, HB2.out⟩
          case round =>
            obtain ⟨j, hj, rfl, HQ⟩ := hrel
            by_cases hjm : j < m
            · obtain ⟨u, hu⟩ : ∃ u, (fullW ws)[j]? = some u := ⟨(fullW ws)[j]'(by rw [HT.out.2.2.2.2]; exact hjm), List.getElem?_eq_getElem _⟩
              obtain ⟨p, hp⟩ := HT.out.1 j u hu
              have hbw : Below W0.heap.size W0 wr := HO.out.2.trans (Below.mono HQ.out HO.out.2.size)
              obtain ⟨b2, off2, rfl, cw⟩ := gsW_at (HT.out.2.2.2.1.later hbw (Nat.le_refl _)) hu
              obtain ⟨c0, _, cr, cx⟩ := tk_at (range_kept (HO.out.1 j _ hp) HQ.out (Nat.le_refl _))
              have hS : Below wr.heap.size wr wr.drew := (Below.refl _ _).drew
              have R0 : ∀ w', Below wr.heap.size wr w' → w'.cell? ⟨g, j * 4, none⟩ = some (.int .i64 1) := fun w' h => (h.cell (p := ⟨g, j * 4, none⟩) (lt_of_cell' c0)).trans c0
              have R2 : ∀ w', Below wr.heap.size wr w' → w'.cell? ⟨g, j * 4 + 2, none⟩ = some (.int .i64 1) := fun w' h => (h.cell (p := ⟨g, j * 4 + 2, none⟩) (lt_of_cell' cr)).trans cr
              have R3 : ∀ w', Below wr.heap.size wr w' → w'.cell? ⟨g, j * 4 + 3, none⟩ = some (.string (mkS u)) := fun w' h => (h.cell (p := ⟨g, j * 4 + 3, none⟩) (lt_of_cell' cx)).trans cx
              have RW : ∀ w', Below wr.heap.size wr w' → w'.cell? ⟨b2, off2 + j, none⟩ = some (.string (mkS u)) := fun w' h => (h.cell (p := ⟨b2, off2 + j, none⟩) (lt_of_cell' cw)).trans cw
              have gj1 : (j : Int) < (m : Int) := by omega
              have gj2 : (j : Int) < (m : Int) + 1 := by omega
              clear c0 cr cx cw hu hp
              go_wp2_with fail
              refine rg_begin (fun w' => Below wr.heap.size wr w') 26 (by kernel_rfl) rfl ?_
              refine rg_take 0 (v := ?rv1) rfl (by kernel_rfl) (by kernel_rfl) (by kernel_rfl) (fun _ _ _ h => h) (by rfl) hS (fun w2 hw2 => ?ry1) ?rr1
              case ry1 => ((try dsimp only at hw2); go_simp <;> with_reducible rfl)
              simp only [Act.put, List.setIfInBounds_toArray, List.set_cons_zero, List.set_cons_succ]
              refine rg_take 1 (v := ?rv2) rfl (by kernel_rfl) (by kernel_rfl) (by kernel_rfl) (fun _ _ _ h => h) (by rfl) hS (fun w2 hw2 => ?ry2) ?rr2
              case ry2 => ((try dsimp only at hw2); go_simp <;> with_reducible rfl)
              simp only [Act.put, List.setIfInBounds_toArray, List.set_cons_zero, List.set_cons_succ]
              refine rg_take 2 (v := ?rv3) rfl (by kernel_rfl) (by kernel_rfl) (by kernel_rfl) (fun _ _ _ h => h) (by rfl) hS (fun w2 hw2 => ?ry3) ?rr3
              case ry3 => ((try dsimp only at hw2); go_simp <;> with_reducible rfl)
              simp only [Act.put, List.setIfInBounds_toArray, List.set_cons_zero, List.set_cons_succ]
              refine rg_take 3 (v := ?rv4) rfl (by kernel_rfl) (by kernel_rfl) (by kernel_rfl) (fun _ _ _ h => h) (by rfl) hS (fun w2 hw2 => ?ry4) ?rr4
              case ry4 => ((try dsimp only at hw2); go_simp <;> with_reducible rfl)
              simp only [Act.put, List.setIfInBounds_toArray, List.set_cons_zero, List.set_cons_succ]
              refine rg_take 4 (v := ?rv5) rfl (by kernel_rfl) (by kernel_rfl) (by kernel_rfl) (fun _ _ _ h => h) (by rfl) hS (fun w2 hw2 => ?ry5) ?rr5
              case ry5 => ((try dsimp only at hw2); go_simp <;> with_reducible rfl)
              simp only [Act.put, List.setIfInBounds_toArray, List.set_cons_zero, List.set_cons_succ]
              refine rg_take 5 (v := ?rv6) rfl (by kernel_rfl) (by kernel_rfl) (by kernel_rfl) (fun _ _ _ h => h) (by rfl) hS (fun w2 hw2 => ?ry6) ?rr6
              case ry6 => ((try dsimp only at hw2); go_simp <;> with_reducible rfl)
              simp only [Act.put, List.setIfInBounds_toArray, List.set_cons_zero, List.set_cons_succ]
              refine rg_take 6 (v := ?rv7) rfl (by kernel_rfl) (by kernel_rfl) (by kernel_rfl) (fun _ _ _ h => h) (by rfl) hS (fun w2 hw2 => ?ry7) ?rr7
              case ry7 => ((try dsimp only at hw2); go_simp <;> with_reducible rfl)
              simp only [Act.put, List.setIfInBounds_toArray, List.set_cons_zero, List.set_cons_succ]
              refine rg_take 7 (v := ?rv8) rfl (by kernel_rfl) (by kernel_rfl) (by kernel_rfl) (fun _ _ _ h => h) (by rfl) hS (fun w2 hw2 => ?ry8) ?rr8
              case ry8 => ((try dsimp only at hw2); go_simp <;> with_reducible rfl)
              simp only [Act.put, List.setIfInBounds_toArray, List.set_cons_zero, List.set_cons_succ]
              refine rg_take 8 (v := ?rv9) rfl (by kernel_rfl) (by kernel_rfl) (by kernel_rfl) (fun _ _ _ h => h) (by rfl) hS (fun w2 hw2 => ?ry9) ?rr9
              case ry9 => ((try dsimp only at hw2); go_simp <;> with_reducible rfl)
              simp only [Act.put, List.setIfInBounds_toArray, List.set_cons_zero, List.set_cons_succ]
              refine rg_take 9 (v := ?rv10) rfl (by kernel_rfl) (by kernel_rfl) (by kernel_rfl) (fun _ _ _ h => h) (by rfl) hS (fun w2 hw2 => ?ry10) ?rr10
              case ry10 => ((try dsimp only at hw2); go_simp <;> with_reducible rfl)
              simp only [Act.put, List.setIfInBounds_toArray, List.set_cons_zero, List.set_cons_succ]
              refine rg_take 10 (v := ?rv11) rfl (by kernel_rfl) (by kernel_rfl) (by kernel_rfl) (fun _ _ _ h => h) (by rfl) hS (fun w2 hw2 => ?ry11) ?rr11
              case ry11 => ((try dsimp only at hw2); go_simp <;> with_reducible rfl)
              simp only [Act.put, List.setIfInBounds_toArray, List.set_cons_zero, List.set_cons_succ]
              refine rg_take 11 (v := ?rv12) rfl (by kernel_rfl) (by kernel_rfl) (by kernel_rfl) (fun _ _ _ h => h) (by rfl) hS (fun w2 hw2 => ?ry12) ?rr12
              case ry12 => ((try dsimp only at hw2); go_simp <;> with_reducible rfl)
              simp only [Act.put, List.setIfInBounds_toArray, List.set_cons_zero, List.set_cons_succ]
              refine rg_take 12 (v := ?rv13) rfl (by kernel_rfl) (by kernel_rfl) (by kernel_rfl) (fun _ _ _ h => h) (by rfl) hS (fun w2 hw2 => ?ry13) ?rr13
              case ry13 => ((try dsimp only at hw2); go_simp <;> with_reducible rfl)
              simp only [Act.put, List.setIfInBounds_toArray, List.set_cons_zero, List.set_cons_succ]
              refine rg_take 13 (v := ?rv14) rfl (by kernel_rfl) (by kernel_rfl) (by kernel_rfl) (fun _ _ _ h => h) (by rfl) hS (fun w2 hw2 => ?ry14) ?rr14
              case ry14 => ((try dsimp only at hw2); go_simp <;> with_reducible rfl)
              simp only [Act.put, List.setIfInBounds_toArray, List.set_cons_zero, List.set_cons_succ]
              refine rg_take 14 (v := ?rv15) rfl (by kernel_rfl) (by kernel_rfl) (by kernel_rfl) (fun _ _ _ h => h) (by rfl) hS (fun w2 hw2 => ?ry15) ?rr15
              case ry15 => ((try dsimp only at hw2); go_simp <;> with_reducible rfl)
              simp only [Act.put, List.setIfInBounds_toArray, List.set_cons_zero, List.set_cons_succ]
              refine rg_take 15 (v := ?rv16) rfl (by kernel_rfl) (by kernel_rfl) (by kernel_rfl) (fun _ _ _ h => h) (by rfl) hS (fun w2 hw2 => ?ry16) ?rr16
              case ry16 => ((try dsimp only at hw2); go_simp <;> with_reducible rfl)
              simp only [Act.put, List.setIfInBounds_toArray, List.set_cons_zero, List.set_cons_succ]
              refine rg_take 16 (v := ?rv17) rfl (by kernel_rfl) (by kernel_rfl) (by kernel_rfl) (fun _ _ _ h => h) (by rfl) hS (fun w2 hw2 => ?ry17) ?rr17
              case ry17 => ((try dsimp only at hw2); go_simp <;> with_reducible rfl)
              simp only [Act.put, List.setIfInBounds_toArray, List.set_cons_zero, List.set_cons_succ]
              refine rg_take 17 (v := ?rv18) rfl (by kernel_rfl) (by kernel_rfl) (by kernel_rfl) (fun _ _ _ h => h) (by rfl) hS (fun w2 hw2 => ?ry18) ?rr18
              case ry18 => ((try dsimp only at hw2); go_simp <;> with_reducible rfl)
              simp only [Act.put, List.setIfInBounds_toArray, List.set_cons_zero, List.set_cons_succ]
              refine rg_take 18 (v := ?rv19) rfl (by kernel_rfl) (by kernel_rfl) (by kernel_rfl) (fun _ _ _ h => h) (by rfl) hS (fun w2 hw2 => ?ry19) ?rr19
              case ry19 => ((try dsimp only at hw2); go_simp <;> with_reducible rfl)
              simp only [Act.put, List.setIfInBounds_toArray, List.set_cons_zero, List.set_cons_succ]
              refine rg_take 19 (v := ?rv20) rfl (by kernel_rfl) (by kernel_rfl) (by kernel_rfl) (fun _ _ _ h => h) (by rfl) hS (fun w2 hw2 => ?ry20) ?rr20
              case ry20 => ((try dsimp only at hw2); go_simp <;> with_reducible rfl)
              simp only [Act.put, List.setIfInBounds_toArray, List.set_cons_zero, List.set_cons_succ]
              refine rg_take 20 (v := ?rv21) rfl (by kernel_rfl) (by kernel_rfl) (by kernel_rfl) (fun _ _ _ h => h) (by rfl) hS (fun w2 hw2 => ?ry21) ?rr21
              case ry21 => ((try dsimp only at hw2); go_simp <;> with_reducible rfl)
              simp only [Act.put, List.setIfInBounds_toArray, List.set_cons_zero, List.set_cons_succ]
              refine rg_take 21 (v := ?rv22) rfl (by kernel_rfl) (by kernel_rfl) (by kernel_rfl) (fun _ _ _ h => h) (by rfl) hS (fun w2 hw2 => ?ry22) ?rr22
              case ry22 => ((try dsimp only at hw2); go_simp <;> with_reducible rfl)
              simp only [Act.put, List.setIfInBounds_toArray, List.set_cons_zero, List.set_cons_succ]
              refine rg_take 22 (v := ?rv23) rfl (by kernel_rfl) (by kernel_rfl) (by kernel_rfl) (fun _ _ _ h => h) (by rfl) hS (fun w2 hw2 => ?ry23) ?rr23
              case ry23 => ((try dsimp only at hw2); go_simp <;> with_reducible rfl)
              simp only [Act.put, List.setIfInBounds_toArray, List.set_cons_zero, List.set_cons_succ]
              refine rg_take 23 (v := ?rv24) rfl (by kernel_rfl) (by kernel_rfl) (by kernel_rfl) (fun _ _ _ h => h) (by rfl) hS (fun w2 hw2 => ?ry24) ?rr24
              case ry24 => ((try dsimp only at hw2); go_simp <;> with_reducible rfl)
              simp only [Act.put, List.setIfInBounds_toArray, List.set_cons_zero, List.set_cons_succ]
              refine rg_take 24 (v := ?rv25) rfl (by kernel_rfl) (by kernel_rfl) (by kernel_rfl) (fun _ _ _ h => h) (by rfl) hS (fun w2 hw2 => ?ry25) ?rr25
              case ry25 => ((try dsimp only at hw2); go_simp <;> with_reducible rfl)
              simp only [Act.put, List.setIfInBounds_toArray, List.set_cons_zero, List.set_cons_succ]
              refine rg_take 25 (v := ?rv26) rfl (by kernel_rfl) (by kernel_rfl) (by kernel_rfl) (fun _ _ _ h => h) (by rfl) hS (fun w2 hw2 => ?ry26) ?rr26
              case ry26 => ((try dsimp only at hw2); go_simp <;> with_reducible rfl)
              simp only [Act.put, List.setIfInBounds_toArray, List.set_cons_zero, List.set_cons_succ]
              refine rg_done (by kernel_rfl) ?_
              have HS := Lib.hid (HQ.out.trans (hS.mono HQ.out.size))
              clear hS R0 R2 R3 RW
              go_wp2_with fail
              exact ⟨⟨j + 1, hjm, by go_num, HS.out⟩, by simp [intOf]; omega⟩
            · obtain rfl : j = m := by omega
              have HF := Lib.hid (HX.out.2.2.2.trans (((HO.out.2.trans (Below.mono HQ.out HO.out.2.size))).mono HX.out.2.2.2.size))
              go_wp2_with fail
              go_ret
              exact ⟨rfl, HF.out⟩
        · go_wp2_with fail
          refine HK2.out.mono ?_
          rintro e w1 ⟨v, rfl, ⟨rv, rfl, ho⟩, hb1⟩
          obtain ⟨g, c3, rfl, hc⟩ := ho.head HT.out.2.1
          rw [HT.out.2.2.1]
          have HO := Lib.hid (And.intro hc hb1)
          have K2 := Lib.hid (awake18 w1)
          clear ho hc hb1
          go_wp2_with fail
          refine K2.out.mono ?_
          rintro e w2 ⟨rfl, hb2⟩
          have HB2 := Lib.hid hb2
          clear hb2
          go_wp2_with fail
          go_loopw [13] (fun i wr => ∃ j : Nat, j ≤ m ∧ i = .int .i64 j ∧ Hid (Below w1.heap.size w1 wr)) (fun i _ => m - (intOf i).toNat)
          case atStart => exact ⟨0, Nat.zero_le _, rfl, HB2.out⟩
          case round =>
            obtain ⟨j, hj, rfl, HQ⟩ := hrel
            by_cases hjm : j < m
            · obtain ⟨u, hu⟩ : ∃ u, (fullW ws)[j]? = some u := ⟨(fullW ws)[j]'(by rw [HT.out.2.2.2.2]; exact hjm), List.getElem?_eq_getElem _⟩
              obtain ⟨p, hp⟩ := HT.out.1 j u hu
              have hbw : Below W0.heap.size W0 wr := HO.out.2.trans (Below.mono HQ.out HO.out.2.size)
              obtain ⟨b2, off2, rfl, cw⟩ := gsW_at (HT.out.2.2.2.1.later hbw (Nat.le_refl _)) hu
              obtain ⟨c0, _, cr, cx⟩ := tk_at (range_kept (HO.out.1 j _ hp) HQ.out (Nat.le_refl _))
              have hS : Below wr.heap.size wr wr.drew := (Below.refl _ _).drew
              have R0 : ∀ w', Below wr.heap.size wr w' → w'.cell? ⟨g, j * 4, none⟩ = some (.int .i64 1) := fun w' h => (h.cell (p := ⟨g, j * 4, none⟩) (lt_of_cell' c0)).trans c0
              have R2 : ∀ w', Below wr.heap.size wr w' → w'.cell? ⟨g, j * 4 + 2, none⟩ = some (.int .i64 1) := fun w' h => (h.cell (p := ⟨g, j * 4 + 2, none⟩) (lt_of_cell' cr)).trans cr
              have R3 : ∀ w', Below wr.heap.size wr w' → w'.cell? ⟨g, j * 4 + 3, none⟩ = some (.string (mkS u)) := fun w' h => (h.cell (p := ⟨g, j * 4 + 3, none⟩) (lt_of_cell' cx)).trans cx
              have RW : ∀ w', Below wr.heap.size wr w' → w'.cell? ⟨b2, off2 + j, none⟩ = some (.string (mkS u)) := fun w' h => (h.cell (p := ⟨b2, off2 + j, none⟩) (lt_of_cell' cw)).trans cw
              have gj1 : (j : Int) < (m : Int) := by omega
              have gj2 : (j : Int) < (m : Int) + 1 := by omega
              clear c0 cr cx cw hu hp
              go_wp2_with fail
              refine rg_begin (fun w' => Below wr.heap.size wr w') 26 (by kernel_rfl) rfl ?_
              refine rg_take 0 (v := ?rv27) rfl (by kernel_rfl) (by kernel_rfl) (by kernel_rfl) (fun _ _ _ h => h) (by rfl) hS (fun w2 hw2 => ?ry27) ?rr27
              case ry27 => ((try dsimp only at hw2); go_simp <;> with_reducible rfl)
              simp only [Act.put, List.setIfInBounds_toArray, List.set_cons_zero, List.set_cons_succ]
              refine rg_take 1 (v := ?rv28) rfl (by kernel_rfl) (by kernel_rfl) (by kernel_rfl) (fun _ _ _ h => h) (by rfl) hS (fun w2 hw2 => ?ry28) ?rr28
              case ry28 => ((try dsimp only at hw2); go_simp <;> with_reducible rfl)
              simp only [Act.put, List.setIfInBounds_toArray, List.set_cons_zero, List.set_cons_succ]
              refine rg_take 2 (v := ?rv29) rfl (by kernel_rfl) (by kernel_rfl) (by kernel_rfl) (fun _ _ _ h => h) (by rfl) hS (fun w2 hw2 => ?ry29) ?rr29
              case ry29 => ((try dsimp only at hw2); go_simp <;> with_reducible rfl)
              simp only [Act.put, List.setIfInBounds_toArray, List.set_cons_zero, List.set_cons_succ]
              refine rg_take 3 (v := ?rv30) rfl (by kernel_rfl) (by kernel_rfl) (by kernel_rfl) (fun _ _ _ h => h) (by rfl) hS (fun w2 hw2 => ?ry30) ?rr30
              case ry30 => ((try dsimp only at hw2); go_simp <;> with_reducible rfl)
              simp only [Act.put, List.setIfInBounds_toArray, List.set_cons_zero, List.set_cons_succ]
              refine rg_take 4 (v := ?rv31) rfl (by kernel_rfl) (by kernel_rfl) (by kernel_rfl) (fun _ _ _ h => h) (by rfl) hS (fun w2 hw2 => ?ry31) ?rr31
              case ry31 => ((try dsimp only at hw2); go_simp <;> with_reducible rfl)
              simp only [Act.put, List.setIfInBounds_toArray, List.set_cons_zero, List.set_cons_succ]
              refine rg_take 5 (v := ?rv32) rfl (by kernel_rfl) (by kernel_rfl) (by kernel_rfl) (fun _ _ _ h => h) (by rfl) hS (fun w2 hw2 => ?ry32) ?rr32
              case ry32 => ((try dsimp only at hw2); go_simp <;> with_reducible rfl)
              simp only [Act.put, List.setIfInBounds_toArray, List.set_cons_zero, List.set_cons_succ]
              refine rg_take 6 (v := ?rv33) rfl (by kernel_rfl) (by kernel_rfl) (by kernel_rfl) (fun _ _ _ h => h) (by rfl) hS (fun w2 hw2 => ?ry33) ?rr33
              case ry33 => ((try dsimp only at hw2); go_simp <;> with_reducible rfl)
              simp only [Act.put, List.setIfInBounds_toArray, List.set_cons_zero, List.set_cons_succ]
              refine rg_take 7 (v := ?rv34) rfl (by kernel_rfl) (by kernel_rfl) (by kernel_rfl) (fun _ _ _ h => h) (by rfl) hS (fun w2 hw2 => ?ry34) ?rr34
              case ry34 => ((try dsimp only at hw2); go_simp <;> with_reducible rfl)
              simp only [Act.put, List.setIfInBounds_toArray, List.set_cons_zero, List.set_cons_succ]
              refine rg_take 8 (v := ?rv35) rfl (by kernel_rfl) (by kernel_rfl) (by kernel_rfl) (fun _ _ _ h => h) (by rfl) hS (fun w2 hw2 => ?ry35) ?rr35
              case ry35 => ((try dsimp only at hw2); go_simp <;> with_reducible rfl)
              simp only [Act.put, List.setIfInBounds_toArray, List.set_cons_zero, List.set_cons_succ]
              refine rg_take 9 (v := ?rv36) rfl (by kernel_rfl) (by kernel_rfl) (by kernel_rfl) (fun _ _ _ h => h) (by rfl) hS (fun w2 hw2 => ?ry36) ?rr36
              case ry36 => ((try dsimp only at hw2); go_simp <;> with_reducible rfl)
              simp only [Act.put, List.setIfInBounds_toArray, List.set_cons_zero, List.set_cons_succ]
              refine rg_take 10 (v := ?rv37) rfl (by kernel_rfl) (by kernel_rfl) (by kernel_rfl) (fun _ _ _ h => h) (by rfl) hS (fun w2 hw2 => ?ry37) ?rr37
              case ry37 => ((try dsimp only at hw2); go_simp <;> with_reducible rfl)
              simp only [Act.put, List.setIfInBounds_toArray, List.set_cons_zero, List.set_cons_succ]
              refine rg_take 11 (v := ?rv38) rfl (by kernel_rfl) (by kernel_rfl) (by kernel_rfl) (fun _ _ _ h => h) (by rfl) hS (fun w2 hw2 => ?ry38) ?rr38
              case ry38 => ((try dsimp only at hw2); go_simp <;> with_reducible rfl)
              simp only [Act.put, List.setIfInBounds_toArray, List.set_cons_zero, List.set_cons_succ]
              refine rg_take 12 (v := ?rv39) rfl (by kernel_rfl) (by kernel_rfl) (by kernel_rfl) (fun _ _ _ h => h) (by rfl) hS (fun w2 hw2 => ?ry39) ?rr39
              case ry39 => ((try dsimp only at hw2); go_simp <;> with_reducible rfl)
              simp only [Act.put, List.setIfInBounds_toArray, List.set_cons_zero, List.set_cons_succ]
              refine rg_take 13 (v := ?rv40) rfl (by kernel_rfl) (by kernel_rfl) (by kernel_rfl) (fun _ _ _ h => h) (by rfl) hS (fun w2 hw2 => ?ry40) ?rr40
              case ry40 => ((try dsimp only at hw2); go_simp <;> with_reducible rfl)
              simp only [Act.put, List.setIfInBounds_toArray, List.set_cons_zero, List.set_cons_succ]
              refine rg_take 14 (v := ?rv41) rfl (by kernel_rfl) (by kernel_rfl) (by kernel_rfl) (fun _ _ _ h => h) (by rfl) hS (fun w2 hw2 => ?ry41) ?rr41
              case ry41 => ((try dsimp only at hw2); go_simp <;> with_reducible rfl)
              simp only [Act.put, List.setIfInBounds_toArray, List.set_cons_zero, List.set_cons_succ]
              refine rg_take 15 (v := ?rv42) rfl (by kernel_rfl) (by kernel_rfl) (by kernel_rfl) (fun _ _ _ h => h) (by rfl) hS (fun w2 hw2 => ?ry42) ?rr42
              case ry42 => ((try dsimp only at hw2); go_simp <;> with_reducible rfl)
              simp only [Act.put, List.setIfInBounds_toArray, List.set_cons_zero, List.set_cons_succ]
              refine rg_take 16 (v := ?rv43) rfl (by kernel_rfl) (by kernel_rfl) (by kernel_rfl) (fun _ _ _ h => h) (by rfl) hS (fun w2 hw2 => ?ry43) ?rr43
              case ry43 => ((try dsimp only at hw2); go_simp <;> with_reducible rfl)
              simp only [Act.put, List.setIfInBounds_toArray, List.set_cons_zero, List.set_cons_succ]
              refine rg_take 17 (v := ?rv44) rfl (by kernel_rfl) (by kernel_rfl) (by kernel_rfl) (fun _ _ _ h => h) (by rfl) hS (fun w2 hw2 => ?ry44) ?rr44
              case ry44 => ((try dsimp only at hw2); go_simp <;> with_reducible rfl)
              simp only [Act.put, List.setIfInBounds_toArray, List.set_cons_zero, List.set_cons_succ]
              refine rg_take 18 (v := ?rv45) rfl (by kernel_rfl) (by kernel_rfl) (by kernel_rfl) (fun _ _ _ h => h) (by rfl) hS (fun w2 hw2 => ?ry45) ?rr45
              case ry45 => ((try dsimp only at hw2); go_simp <;> with_reducible rfl)
              simp only [Act.put, List.setIfInBounds_toArray, List.set_cons_zero, List.set_cons_succ]
              refine rg_take 19 (v := ?rv46) rfl (by kernel_rfl) (by kernel_rfl) (by kernel_rfl) (fun _ _ _ h => h) (by rfl) hS (fun w2 hw2 => ?ry46) ?rr46
              case ry46 => ((try dsimp only at hw2); go_simp <;> with_reducible rfl)
              simp only [Act.put, List.setIfInBounds_toArray, List.set_cons_zero, List.set_cons_succ]
              refine rg_take 20 (v := ?rv47) rfl (by kernel_rfl) (by kernel_rfl) (by kernel_rfl) (fun _ _ _ h => h) (by rfl) hS (fun w2 hw2 => ?ry47) ?rr47
              case ry47 => ((try dsimp only at hw2); go_simp <;> with_reducible rfl)
              simp only [Act.put, List.setIfInBounds_toArray, List.set_cons_zero, List.set_cons_succ]
              refine rg_take 21 (v := ?rv48) rfl (by kernel_rfl) (by kernel_rfl) (by kernel_rfl) (fun _ _ _ h => h) (by rfl) hS (fun w2 hw2 => ?ry48) ?rr48
              case ry48 => ((try dsimp only at hw2); go_simp <;> with_reducible rfl)
              simp only [Act.put, List.setIfInBounds_toArray, List.set_cons_zero, List.set_cons_succ]
              refine rg_take 22 (v := ?rv49) rfl (by kernel_rfl) (by kernel_rfl) (by kernel_rfl) (fun _ _ _ h => h) (by rfl) hS (fun w2 hw2 => ?ry49) ?rr49
              case ry49 => ((try dsimp only at hw2); go_simp <;> with_reducible rfl)
              simp only [Act.put, List.setIfInBounds_toArray, List.set_cons_zero, List.set_cons_succ]
              refine rg_take 23 (v := ?rv50) rfl (by kernel_rfl) (by kernel_rfl) (by kernel_rfl) (fun _ _ _ h => h) (by rfl) hS (fun w2 hw2 => ?ry50) ?rr50
              case ry50 => ((try dsimp only at hw2); go_simp <;> with_reducible rfl)
              simp only [Act.put, List.setIfInBounds_toArray, List.set_cons_zero, List.set_cons_succ]
              refine rg_take 24 (v := ?rv51) rfl (by kernel_rfl) (by kernel_rfl) (by kernel_rfl) (fun _ _ _ h => h) (by rfl) hS (fun w2 hw2 => ?ry51) ?rr51
              case ry51 => ((try dsimp only at hw2); go_simp <;> with_reducible rfl)
              simp only [Act.put, List.setIfInBounds_toArray, List.set_cons_zero, List.set_cons_succ]
              refine rg_take 25 (v := ?rv52) rfl (by kernel_rfl) (by kernel_rfl) (by kernel_rfl) (fun _ _ _ h => h) (by rfl) hS (fun w2 hw2 => ?ry52) ?rr52
              case ry52 => ((try dsimp only at hw2); go_simp <;> with_reducible rfl)
              simp only [Act.put, List.setIfInBounds_toArray, List.set_cons_zero, List.set_cons_succ]
              refine rg_done (by kernel_rfl) ?_
              have HS := Lib.hid (HQ.out.trans (hS.mono HQ.out.size))
              clear hS R0 R2 R3 RW
              go_wp2_with fail
              exact ⟨⟨j + 1, hjm, by go_num, HS.out⟩, by simp [intOf]; omega⟩
            · obtain rfl : j = m := by omega
              have HF := Lib.hid (HX.out.2.2.2.trans (((HO.out.2.trans (Below.mono HQ.out HO.out.2.size))).mono HX.out.2.2.2.size))
              go_wp2_with fail
              go_ret
              exact ⟨rfl, HF.out⟩
end Go.Proofs.Ytiggfoghogecjaa
