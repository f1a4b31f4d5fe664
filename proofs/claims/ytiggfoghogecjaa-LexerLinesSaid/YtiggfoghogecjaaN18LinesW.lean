/-
  Package stockadelaw18's LexerLines: true, whatever the texts. No conditions.
-/
import Derived.Test.YtiggfoghogecjaaPq18
import Derived.Test.YtiggfoghogecjaaPurN18
namespace Go.Proofs.Ytiggfoghogecjaa
open Go.RowKit
set_option maxRecDepth 100000

theorem lines_ne {l : List UInt8} {ts : List Tk} (h : lexM .gap 0 1 l = .inr ts) : ts ≠ [] := by
  obtain ⟨us, R, h1, _⟩ := lexM_noted [] (fun c h => by cases h) l .gap 0 1 ts h
  rw [h1]
  simp
set_option maxHeartbeats 1000000 in
theorem lines_big (a b q : ByteArray) (h : 500 < a.size ∨ (¬ 500 < a.size ∧ 500 < b.size) ∨ (¬ 500 < a.size ∧ ¬ 500 < b.size ∧ 500 < q.size)) (w : World) : Calls Try.prog 4 #[.string a, .string b, .string q] w fun e w' => e = .returned (.bool true) ∧ Below w.heap.size w w' := by
  have K := Lib.hid (awake18 w)
  rcases h with d1 | ⟨d1, d2⟩ | ⟨d1, d2, d3⟩
  all_goals
    go_enter Try.func4, Try.ntmps4
    go_wp2_with fail
    refine K.out.mono ?_
    rintro e w' ⟨rfl, hb⟩
    have HB := Lib.hid hb
    clear hb
    go_wp2_with fail
    go_ret
    exact ⟨rfl, HB.out⟩
set_option maxHeartbeats 2000000 in
theorem lines_ll {la lb lq : List UInt8} (la5 : la.length ≤ 500) (lb5 : lb.length ≤ 500) (lq5 : lq.length ≤ 500) {px : Nat} (hx : lexM .gap 0 1 la = .inl px) {py : Nat} (hy : lexM .gap 0 1 lb = .inl py) (w : World) : Calls Try.prog 4 #[.string (mkS la), .string (mkS lb), .string (mkS lq)] w fun e w' => e = .returned (.bool true) ∧ Below w.heap.size w w' := by
  have hz := lex_not (a := la) (b := lb) (.inl ⟨_, hx⟩)
  obtain ⟨pz, hz⟩ := hz
  have KA := fun w' => tokens18 (mkS la) (by rw [mkS_size]; omega) w'
  have KB := fun w' => tokens18 (mkS lb) (by rw [mkS_size]; omega) w'
  have KZ := fun w' => tokens18 (mkS (la ++ 10 :: lb)) (by rw [mkS_size]; simp; omega) w'
  simp only [mkS_data, hx] at KA
  simp only [mkS_data, hy] at KB
  simp only [mkS_data, hz] at KZ
  replace KA := Lib.hid KA
  replace KB := Lib.hid KB
  replace KZ := Lib.hid KZ
  have hsa : (mkS la).size = la.length := mkS_size la
  have hsb : (mkS lb).size = lb.length := mkS_size lb
  have hsq : (mkS lq).size = lq.length := mkS_size lq
  have hcat : mkS la ++ ⟨#[10]⟩ = mkS (la ++ [10]) := mkS_cat la [10]
  have hcat2 : mkS (la ++ [10]) ++ mkS lb = mkS (la ++ 10 :: lb) := by rw [mkS_cat]; simp
  have hsc : (mkS (la ++ [10])).size = la.length + 1 := by rw [mkS_size]; simp
  have hn1 : ¬ 9223372036854775807 < la.length + 1 := by omega
  have hn2 : ¬ 9223372036854775807 < la.length + 1 + lb.length := by omega
  have HXX := Lib.hid (And.intro hx hy)
  clear hx hy hz
  have K0 := Lib.hid (awake18 w)
  go_enter Try.func4, Try.ntmps4
  go_wp2_with fail
  refine K0.out.mono ?_
  rintro e w1 ⟨rfl, hb1⟩
  have H1 := Lib.hid hb1
  have KA1 := Lib.hid (KA.out w1)
  clear hb1
  go_wp2_with fail
  refine KA1.out.mono ?_
  rintro e w2 ⟨v, rfl, ⟨er2, rfl, g2, rfl, _⟩, hb2⟩
  have H2 := Lib.hid (And.intro (H1.out.trans (hb2.mono H1.out.size)) hb2)
  have KB1 := Lib.hid (KB.out w2)
  clear hb2
  go_wp2_with fail
  refine KB1.out.mono ?_
  rintro e w3 ⟨v, rfl, ⟨er3, rfl, g3, rfl, _⟩, hb3⟩
  have H3 := Lib.hid (And.intro (H2.out.1.trans (hb3.mono H2.out.1.size)) hb3)
  have KZ1 := Lib.hid (KZ.out w3)
  clear hb3
  go_wp2_with fail
  refine KZ1.out.mono ?_
  rintro e w4 ⟨v, rfl, ⟨er4, rfl, g4, rfl, _⟩, hb4⟩
  have H4 := Lib.hid (And.intro (H3.out.1.trans (hb4.mono H3.out.1.size)) hb4)
  clear hb4
  go_wp2_with fail
  go_ret
  exact ⟨rfl, H4.out.1⟩
set_option maxHeartbeats 2000000 in
theorem lines_lr {la lb lq : List UInt8} (la5 : la.length ≤ 500) (lb5 : lb.length ≤ 500) (lq5 : lq.length ≤ 500) {px : Nat} (hx : lexM .gap 0 1 la = .inl px) {ys : List Tk} (hy : lexM .gap 0 1 lb = .inr ys) (w : World) : Calls Try.prog 4 #[.string (mkS la), .string (mkS lb), .string (mkS lq)] w fun e w' => e = .returned (.bool true) ∧ Below w.heap.size w w' := by
  have hz := lex_not (a := la) (b := lb) (.inl ⟨_, hx⟩)
  obtain ⟨pz, hz⟩ := hz
  have KA := fun w' => tokens18 (mkS la) (by rw [mkS_size]; omega) w'
  have KB := fun w' => tokens18 (mkS lb) (by rw [mkS_size]; omega) w'
  have KZ := fun w' => tokens18 (mkS (la ++ 10 :: lb)) (by rw [mkS_size]; simp; omega) w'
  simp only [mkS_data, hx] at KA
  simp only [mkS_data, hy] at KB
  simp only [mkS_data, hz] at KZ
  replace KA := Lib.hid KA
  replace KB := Lib.hid KB
  replace KZ := Lib.hid KZ
  have hsa : (mkS la).size = la.length := mkS_size la
  have hsb : (mkS lb).size = lb.length := mkS_size lb
  have hsq : (mkS lq).size = lq.length := mkS_size lq
  have hcat : mkS la ++ ⟨#[10]⟩ = mkS (la ++ [10]) := mkS_cat la [10]
  have hcat2 : mkS (la ++ [10]) ++ mkS lb = mkS (la ++ 10 :: lb) := by rw [mkS_cat]; simp
  have hsc : (mkS (la ++ [10])).size = la.length + 1 := by rw [mkS_size]; simp
  have hn1 : ¬ 9223372036854775807 < la.length + 1 := by omega
  have hn2 : ¬ 9223372036854775807 < la.length + 1 + lb.length := by omega
  have HXX := Lib.hid (And.intro hx hy)
  clear hx hy hz
  have K0 := Lib.hid (awake18 w)
  go_enter Try.func4, Try.ntmps4
  go_wp2_with fail
  refine K0.out.mono ?_
  rintro e w1 ⟨rfl, hb1⟩
  have H1 := Lib.hid hb1
  have KA1 := Lib.hid (KA.out w1)
  clear hb1
  go_wp2_with fail
  refine KA1.out.mono ?_
  rintro e w2 ⟨v, rfl, ⟨er2, rfl, g2, rfl, _⟩, hb2⟩
  have H2 := Lib.hid (And.intro (H1.out.trans (hb2.mono H1.out.size)) hb2)
  have KB1 := Lib.hid (KB.out w2)
  clear hb2
  go_wp2_with fail
  refine KB1.out.mono ?_
  rintro e w3 ⟨v, rfl, ⟨r3, rfl, o3⟩, hb3⟩
  obtain ⟨A3, c3, rfl, hs3⟩ := TkS.of_own o3
  clear o3 hs3
  have H3 := Lib.hid (And.intro (H2.out.1.trans (hb3.mono H2.out.1.size)) hb3)
  have KZ1 := Lib.hid (KZ.out w3)
  clear hb3
  go_wp2_with fail
  refine KZ1.out.mono ?_
  rintro e w4 ⟨v, rfl, ⟨er4, rfl, g4, rfl, _⟩, hb4⟩
  have H4 := Lib.hid (And.intro (H3.out.1.trans (hb4.mono H3.out.1.size)) hb4)
  clear hb4
  go_wp2_with fail
  go_ret
  exact ⟨rfl, H4.out.1⟩
set_option maxHeartbeats 2000000 in
theorem lines_rl {la lb lq : List UInt8} (la5 : la.length ≤ 500) (lb5 : lb.length ≤ 500) (lq5 : lq.length ≤ 500) {xs : List Tk} (hx : lexM .gap 0 1 la = .inr xs) {py : Nat} (hy : lexM .gap 0 1 lb = .inl py) (w : World) : Calls Try.prog 4 #[.string (mkS la), .string (mkS lb), .string (mkS lq)] w fun e w' => e = .returned (.bool true) ∧ Below w.heap.size w w' := by
  have hz := lex_not (a := la) (b := lb) (.inr ⟨_, hy⟩)
  obtain ⟨pz, hz⟩ := hz
  have KA := fun w' => tokens18 (mkS la) (by rw [mkS_size]; omega) w'
  have KB := fun w' => tokens18 (mkS lb) (by rw [mkS_size]; omega) w'
  have KZ := fun w' => tokens18 (mkS (la ++ 10 :: lb)) (by rw [mkS_size]; simp; omega) w'
  simp only [mkS_data, hx] at KA
  simp only [mkS_data, hy] at KB
  simp only [mkS_data, hz] at KZ
  replace KA := Lib.hid KA
  replace KB := Lib.hid KB
  replace KZ := Lib.hid KZ
  have hsa : (mkS la).size = la.length := mkS_size la
  have hsb : (mkS lb).size = lb.length := mkS_size lb
  have hsq : (mkS lq).size = lq.length := mkS_size lq
  have hcat : mkS la ++ ⟨#[10]⟩ = mkS (la ++ [10]) := mkS_cat la [10]
  have hcat2 : mkS (la ++ [10]) ++ mkS lb = mkS (la ++ 10 :: lb) := by rw [mkS_cat]; simp
  have hsc : (mkS (la ++ [10])).size = la.length + 1 := by rw [mkS_size]; simp
  have hn1 : ¬ 9223372036854775807 < la.length + 1 := by omega
  have hn2 : ¬ 9223372036854775807 < la.length + 1 + lb.length := by omega
  have HXX := Lib.hid (And.intro hx hy)
  clear hx hy hz
  have K0 := Lib.hid (awake18 w)
  go_enter Try.func4, Try.ntmps4
  go_wp2_with fail
  refine K0.out.mono ?_
  rintro e w1 ⟨rfl, hb1⟩
  have H1 := Lib.hid hb1
  have KA1 := Lib.hid (KA.out w1)
  clear hb1
  go_wp2_with fail
  refine KA1.out.mono ?_
  rintro e w2 ⟨v, rfl, ⟨r2, rfl, o2⟩, hb2⟩
  obtain ⟨A2, c2, rfl, hs2⟩ := TkS.of_own o2
  clear o2 hs2
  have H2 := Lib.hid (And.intro (H1.out.trans (hb2.mono H1.out.size)) hb2)
  have KB1 := Lib.hid (KB.out w2)
  clear hb2
  go_wp2_with fail
  refine KB1.out.mono ?_
  rintro e w3 ⟨v, rfl, ⟨er3, rfl, g3, rfl, _⟩, hb3⟩
  have H3 := Lib.hid (And.intro (H2.out.1.trans (hb3.mono H2.out.1.size)) hb3)
  have KZ1 := Lib.hid (KZ.out w3)
  clear hb3
  go_wp2_with fail
  refine KZ1.out.mono ?_
  rintro e w4 ⟨v, rfl, ⟨er4, rfl, g4, rfl, _⟩, hb4⟩
  have H4 := Lib.hid (And.intro (H3.out.1.trans (hb4.mono H3.out.1.size)) hb4)
  clear hb4
  go_wp2_with fail
  go_ret
  exact ⟨rfl, H4.out.1⟩
set_option maxHeartbeats 8000000 in
theorem lines_rr {la lb lq : List UInt8} (la5 : la.length ≤ 500) (lb5 : lb.length ≤ 500) (lq5 : lq.length ≤ 500) {xs ys : List Tk} (hx : lexM .gap 0 1 la = .inr xs) (hy : lexM .gap 0 1 lb = .inr ys) (w : World) : Calls Try.prog 4 #[.string (mkS la), .string (mkS lb), .string (mkS lq)] w fun e w' => e = .returned (.bool true) ∧ Below w.heap.size w w' := by
  obtain ⟨R, us, hu, hz, hq⟩ := lex_two hx hy
  obtain ⟨zs, hzs⟩ : ∃ zs, xs ++ ys.map (Tk.shift (la.length + 1) R) = zs := ⟨_, rfl⟩
  rw [hzs] at hz hq
  obtain ⟨nx, hnx⟩ : ∃ n, xs.length = n := ⟨_, rfl⟩
  obtain ⟨ny, hny⟩ : ∃ n, ys.length = n := ⟨_, rfl⟩
  have hnz : zs.length = nx + ny := by rw [← hzs, List.length_append, List.length_map, hnx, hny]
  have bnd := lexM_bounds lb .gap 0 1 ys (fun st acc h => by cases h) hy
  have bndx := lexM_bounds la .gap 0 1 xs (fun st acc h => by cases h) hx
  have cntx := (lexM_count _ _ _ _ _ hx).1
  have cnty := (lexM_count _ _ _ _ _ hy).1
  rw [hnx] at cntx
  rw [hny] at cnty
  simp only [Md.flush, List.length_nil, Nat.add_zero] at cntx cnty
  have hR : R ≤ 501 := by
    have := (bndx ⟨false, la.length, R, []⟩ (by rw [hu]; simp)).2
    dsimp only at this
    omega
  have nex := lines_ne hx
  have ney := lines_ne hy
  have nez := lines_ne hz
  have hpx : 0 < nx := by rw [← hnx]; exact List.length_pos_iff.2 nex
  have hlast : xs[nx - 1]? = some ⟨false, la.length, R, []⟩ := by
    rw [← hnx, ← List.getLast?_eq_getElem?, hu]
    simp
  have hzx : ∀ (i : Nat) t, xs[i]? = some t → zs[i]? = some t := fun i t h => by
    rw [← hzs, List.getElem?_append_left (List.getElem?_eq_some_iff.1 h).1]
    exact h
  have hzy : ∀ (i : Nat) t, ys[i]? = some t → zs[nx + i]? = some (t.shift (la.length + 1) R) := fun i t h => by
    rw [← hzs, List.getElem?_append_right (by omega), hnx, Nat.add_sub_cancel_left, List.getElem?_map, h]
    rfl
  have KA := fun w' => tokens18 (mkS la) (by rw [mkS_size]; omega) w'
  have KB := fun w' => tokens18 (mkS lb) (by rw [mkS_size]; omega) w'
  have KZ := fun w' => tokens18 (mkS (la ++ 10 :: lb)) (by rw [mkS_size]; simp; omega) w'
  simp only [mkS_data, hx] at KA
  simp only [mkS_data, hy] at KB
  simp only [mkS_data, hz] at KZ
  replace KA := Lib.hid KA
  replace KB := Lib.hid KB
  replace KZ := Lib.hid KZ
  have HNE := Lib.hid (And.intro nex (And.intro ney nez))
  have HLN := Lib.hid (And.intro hnx (And.intro hny hnz))
  have HQ := Lib.hid hq
  have HLA := Lib.hid hlast
  have HZX := Lib.hid (And.intro hzx hzy)
  have HBN := Lib.hid bnd
  clear hx hy hz hq hu hzs hnx hny hnz bnd bndx nex ney nez hlast hzx hzy
  have hsa : (mkS la).size = la.length := mkS_size la
  have hsb : (mkS lb).size = lb.length := mkS_size lb
  have hsq : (mkS lq).size = lq.length := mkS_size lq
  have hcat : mkS la ++ ⟨#[10]⟩ = mkS (la ++ [10]) := mkS_cat la [10]
  have hcat2 : mkS (la ++ [10]) ++ mkS lb = mkS (la ++ 10 :: lb) := by rw [mkS_cat]; simp
  have hsc : (mkS (la ++ [10])).size = la.length + 1 := by rw [mkS_size]; simp
  have hn1 : ¬ 9223372036854775807 < la.length + 1 := by omega
  have hn2 : ¬ 9223372036854775807 < la.length + 1 + lb.length := by omega
  have K0 := Lib.hid (awake18 w)
  go_enter Try.func4, Try.ntmps4
  go_wp2_with fail
  refine K0.out.mono ?_
  rintro e w1 ⟨rfl, hb1⟩
  have H1 := Lib.hid hb1
  have KA1 := Lib.hid (KA.out w1)
  clear hb1
  go_wp2_with fail
  refine KA1.out.mono ?_
  rintro e w2 ⟨v, rfl, ⟨r2, rfl, o2⟩, hb2⟩
  obtain ⟨gx, cx, e2, hsx⟩ := TkS.of_own o2
  obtain ⟨gx, cx, rfl, hrx⟩ := o2.head HNE.out.1
  cases e2
  rw [HLN.out.1] at hsx ⊢
  have HOX := Lib.hid (And.intro o2 (And.intro hrx hsx))
  clear o2 hrx hsx
  have H2 := Lib.hid (And.intro (H1.out.trans (hb2.mono H1.out.size)) hb2)
  have KB1 := Lib.hid (KB.out w2)
  clear hb2
  go_wp2_with fail
  refine KB1.out.mono ?_
  rintro e w3 ⟨v, rfl, ⟨r3, rfl, o3⟩, hb3⟩
  obtain ⟨gy, cy, rfl, hry⟩ := o3.head HNE.out.2.1
  have HOY := Lib.hid (And.intro o3 hry)
  clear o3 hry
  rw [HLN.out.2.1]
  have H3 := Lib.hid (And.intro (H2.out.1.trans (hb3.mono H2.out.1.size)) hb3)
  have KZ1 := Lib.hid (KZ.out w3)
  clear hb3
  go_wp2_with fail
  refine KZ1.out.mono ?_
  rintro e w4 ⟨v, rfl, ⟨r4, rfl, o4⟩, hb4⟩
  obtain ⟨gz, cz, e4, hsz⟩ := TkS.of_own o4
  obtain ⟨gz, cz, rfl, hrz⟩ := o4.head HNE.out.2.2
  cases e4
  have hcz := hsz.cap
  have hmz := hsz.max
  unfold maxLen at hmz
  have HOZ := Lib.hid (And.intro o4 (And.intro hrz hsz))
  clear o4 hrz hsz
  rw [HLN.out.2.2] at hcz ⊢
  have H4 := Lib.hid (And.intro (H3.out.1.trans (hb4.mono H3.out.1.size)) hb4)
  clear hb4

  have e0 : ((nx : Int) == 0) = false := by
    rw [beq_eq_false_iff_ne]
    omega
  have hb24 := H3.out.2.trans (H4.out.2.mono H3.out.2.size)
  have hxx := HOX.out.2.2.later hb24 (Nat.le_refl _)
  have hzx' : TkS w4 (some ⟨gz, 0, none⟩) nx cz xs := ⟨HLN.out.1, by omega, by unfold maxLen; omega, (fun h => by cases h), fun i t ht => ⟨gz, 0, rfl, by rw [Nat.zero_add]; exact HOZ.out.2.1 i t (HZX.out.1 i t ht)⟩⟩
  have KP := Lib.hid (plain_tk hzx' hxx)
  have HB24 := Lib.hid hb24
  clear hxx hzx' hb24
  go_wp2_with fail
  refine KP.out.mono ?_
  rintro e w5 ⟨rfl, hb5⟩
  have c2 := (tk_at (range_kept (HOX.out.2.1 (nx - 1) _ HLA.out) (HB24.out.trans (hb5.mono HB24.out.size)) (Nat.le_refl _))).2.2.1
  dsimp only at c2
  have H5 := Lib.hid hb5
  clear hb5
  go_wp2_with fail
  clear c2
  go_loopw [14] (fun i wr => ∃ j : Nat, j ≤ ny ∧ i = .int .i64 j ∧ Hid (Below w4.heap.size w4 wr)) (fun i _ => ny - (intOf i).toNat)
  case atStart => exact ⟨0, Nat.zero_le _, rfl, H5.out⟩
  case round =>
    obtain ⟨j, hj, rfl, HX⟩ := hrel
    by_cases hlt : j < ny
    · obtain ⟨t, ht⟩ : ∃ t, ys[j]? = some t := ⟨ys[j]'(by rw [HLN.out.2.1]; exact hlt), List.getElem?_eq_getElem _⟩
      have hr := range_kept (range_kept (HOY.out.2 j t ht) H4.out.2 (Nat.le_refl _)) HX.out (Nat.le_refl _)
      have hrz := range_kept (HOZ.out.2.1 (nx + j) _ (HZX.out.2 j t ht)) HX.out (Nat.le_refl _)
      have hbt := HBN.out t (List.mem_of_getElem? ht)
      rw [Nat.zero_add] at hbt
      obtain ⟨p, hp⟩ : ∃ p, t.at_ = p := ⟨_, rfl⟩
      obtain ⟨r, hr0⟩ : ∃ r, t.row = r := ⟨_, rfl⟩
      rw [hp, hr0] at hbt
      obtain ⟨hb1_, hb2_⟩ := hbt
      have HC1 := Lib.hid (show (tkv t)[1]? = some (.int .i64 p) by rw [← hp]; rfl)
      have HC2 := Lib.hid (show (tkv t)[2]? = some (.int .i64 r) by rw [← hr0]; rfl)
      have HT := Lib.hid (And.intro hp hr0)
      clear hp hr0 ht
      go_wp2_with (first
          | (refine wpList_load_tk rfl (.tmp 104) rfl (b := gy) (f := j * 4) rfl hr ?_)
          | (refine wpList_alloc_tk rfl rfl ?_; intro wa a1 b1 s1; refine wpList_store_tk rfl (.tmp 15) (.tmp 105) rfl t rfl rfl rfl a1 ?_; intro wb a2 _ s2 t2; have HB := Lib.hid (And.intro a2 (And.intro (HX.out.trans ((t2 _ _ (Nat.le_refl _) b1).mono HX.out.size)) (t2 _ _ (Nat.le_refl _) b1))); have e1 := a2.cell 1; have e2 := a2.cell 2; have f1 := a2.frozen 1; have f2 := a2.frozen 2; rw [HC1.out] at e1; rw [HC2.out] at e2; clear a1 b1 s1 a2 s2 t2))
      have e1' : (p : Int) + la.length + 1 = ((p + la.length + 1 : Nat) : Int) := by omega
      have e2' : (r : Int) + R = ((r + R : Nat) : Int) := by omega
      rw [e1', e2']
      have hbx := HB.out.1.put (p + la.length + 1) (r + R)
      have hbw : Below w4.heap.size w4 ((wb.setCell ⟨wr.heap.size, 1, none⟩ (.int .i64 ((p + la.length + 1 : Nat) : Int))).setCell ⟨wr.heap.size, 2, none⟩ (.int .i64 ((r + R : Nat) : Int))) := (HB.out.2.1.setCell HX.out.size _).setCell HX.out.size _
      have hbw2 : Below wr.heap.size wr ((wb.setCell ⟨wr.heap.size, 1, none⟩ (.int .i64 ((p + la.length + 1 : Nat) : Int))).setCell ⟨wr.heap.size, 2, none⟩ (.int .i64 ((r + R : Nat) : Int))) := (HB.out.2.2.setCell (Nat.le_refl _) _).setCell (Nat.le_refl _) _
      have hTT : (⟨t.word, p + la.length + 1, r + R, t.text⟩ : Tk) = t.shift (la.length + 1) R := by unfold Tk.shift; rw [HT.out.1, HT.out.2, Nat.add_assoc]
      rw [hTT] at hbx
      replace hrz := range_kept hrz hbw2 (Nat.le_refl _)
      obtain ⟨T, hT⟩ : ∃ T, t.shift (la.length + 1) R = T := ⟨_, rfl⟩
      rw [hT] at hbx hrz
      generalize (wb.setCell ⟨wr.heap.size, 1, none⟩ (.int .i64 ((p + la.length + 1 : Nat) : Int))).setCell ⟨wr.heap.size, 2, none⟩ (.int .i64 ((r + R : Nat) : Int)) = W8 at hbx hbw hrz ⊢
      have hs1 := tk_size T
      have heq := neqTk_same T
      have HR := Lib.hid (And.intro hrz (And.intro hbx.range hbw))
      clear hbx hrz hbw hbw2 hTT hT hs1 e1 e2 f1 f2 hr e1' e2'
      have g0 : (0 : Int) ≤ (nx : Int) + (j : Int) := by omega
      have g1 : (nx : Int) + (j : Int) < (nx : Int) + (ny : Int) := by omega
      have g3 : IntKind.i64.wrap ((nx : Int) + (j : Int)) = ((nx + j : Nat) : Int) := by
        rw [IntKind.wrap_i64]
        omega
      have hS : Below W8.heap.size W8 W8.drew := (Below.refl _ _).drew
      refine rg_begin (fun w' => Below W8.heap.size W8 w') 9 (by kernel_rfl) rfl ?_
      refine rg_take 0 (v := ?rv1) rfl (by kernel_rfl) (by kernel_rfl) (by kernel_rfl) (fun _ _ _ h => h) (by rfl) hS (fun w2 hw2 => ?ry1) ?rr1
      case ry1 => ((try dsimp only at hw2); go_simp <;> with_reducible rfl)
      simp only [Act.put, List.setIfInBounds_toArray, List.set_cons_zero, List.set_cons_succ]
      refine rg_take 1 (v := ?rv2) rfl (by kernel_rfl) (by kernel_rfl) (by kernel_rfl) (fun _ _ _ h => h) (by rfl) hS (fun w2 hw2 => ?ry2) ?rr2
      case ry2 => ((try dsimp only at hw2); go_simp <;> with_reducible rfl)
      simp only [Act.put, List.setIfInBounds_toArray, List.set_cons_zero, List.set_cons_succ]
      refine rg_take 2 (v := ?rv3) rfl (by kernel_rfl) (by kernel_rfl) (by kernel_rfl) (fun _ _ _ h => h) (by rfl) hS (fun w2 hw2 => ?ry3) ?rr3
      case ry3 => ((try dsimp only at hw2); go_simp <;> with_reducible rfl)
      simp only [Act.put, List.setIfInBounds_toArray, List.set_cons_zero, List.set_cons_succ]
      refine rg_take 3 (v := ?rv4) rfl (by kernel_rfl) (by kernel_rfl) (by kernel_rfl) (fun _ _ _ h => h) (by rfl) hS (fun w2 hw2 => ?ry4) ?rr4
      case ry4 => ((try dsimp only at hw2); go_simp <;> with_reducible rfl)
      simp only [Act.put, List.setIfInBounds_toArray, List.set_cons_zero, List.set_cons_succ]
      refine rg_take 4 (v := ?rv5) rfl (by kernel_rfl) (by kernel_rfl) (by kernel_rfl) (fun _ _ _ h => h) (by rfl) hS (fun w2 hw2 => ?ry5) ?rr5
      case ry5 => ((try dsimp only at hw2); go_simp <;> with_reducible rfl)
      simp only [Act.put, List.setIfInBounds_toArray, List.set_cons_zero, List.set_cons_succ]
      refine rg_take 5 (v := ?rv6) rfl (by kernel_rfl) (by kernel_rfl) (by kernel_rfl) (fun _ _ _ h => h) (by rfl) hS (fun w2 hw2 => ?ry6) ?rr6
      case ry6 => ((try dsimp only at hw2); go_simp <;> with_reducible rfl)
      simp only [Act.put, List.setIfInBounds_toArray, List.set_cons_zero, List.set_cons_succ]
      refine rg_load 6 rfl (by kernel_rfl) (by kernel_rfl) (by kernel_rfl) (gz) ((nx + j) * 4) ((tkv T)) (fun _ _ _ h => h) (by rfl) 29 (.tmp 123) rfl rfl hS (fun w2 h2 => range_kept HR.out.1 h2 (Nat.le_refl _)) Try.underlying29 rfl (tk_size T) ?_
      simp only [Act.put, List.setIfInBounds_toArray, List.set_cons_zero, List.set_cons_succ]
      refine rg_load 7 rfl (by kernel_rfl) (by kernel_rfl) (by kernel_rfl) (wr.heap.size) (0) ((tkv T)) (fun _ _ _ h => h) (by rfl) 29 (.tmp 15) rfl rfl hS (fun w2 h2 => range_kept HR.out.2.1 h2 (Nat.le_refl _)) Try.underlying29 rfl (tk_size T) ?_
      simp only [Act.put, List.setIfInBounds_toArray, List.set_cons_zero, List.set_cons_succ]
      refine rg_take 8 (v := ?rv7) rfl (by kernel_rfl) (by kernel_rfl) (by kernel_rfl) (fun _ _ _ h => h) (by rfl) hS (fun w2 hw2 => ?ry7) ?rr7
      case ry7 => ((try dsimp only at hw2); go_simp <;> with_reducible rfl)
      simp only [Act.put, List.setIfInBounds_toArray, List.set_cons_zero, List.set_cons_succ]
      refine rg_done (by kernel_rfl) ?_
      have H2 := Lib.hid (HR.out.2.2.trans (hS.mono HR.out.2.2.size))
      clear hS
      go_wp2_with fail
      exact ⟨⟨j + 1, hlt, by go_num, H2.out⟩, by simp [intOf]; omega⟩
    · obtain rfl : j = ny := by omega
      obtain ⟨W0, hW0⟩ : ∃ W0, W0 = wr := ⟨_, rfl⟩
      subst hW0
      go_wp2_with fail
      go_loop [16, 17] (fun u i => ∃ (q : List UInt8) (m : Nat), m ≤ lq.length ∧ i = .int .i64 m ∧ u = .string (mkS q) ∧ q.length ≤ m ∧ Hid (∀ c ∈ q, c ≠ 10)) (fun _ i => lq.length - (intOf i).toNat)
      case atStart => exact ⟨[], 0, Nat.zero_le _, rfl, rfl, Nat.zero_le _, fun c h => by cases h⟩
      case round =>
        obtain ⟨q, m, hm, rfl, rfl, hql, HC⟩ := hrel
        have hqs : (mkS q).size = q.length := mkS_size q
        by_cases hml : m < lq.length
        · obtain ⟨x, hx, hsk⟩ := str_at (s := mkS lq) (i := m) (by omega)
          by_cases h10 : x = 10
          · have e10 : ((x.toNat : Int) != 10) = false := by rw [h10]; rfl
            clear hx h10
            go_wp2_with fail
            exact ⟨⟨q, m + 1, hml, by go_num, rfl, by omega, HC.out⟩, by simp [intOf]; omega⟩
          · have e10 : ((x.toNat : Int) != 10) = true := by
              rw [bne_iff_ne]
              intro h
              apply h10
              apply UInt8.toNat_inj.1
              show x.toNat = 10
              omega
            have hcat3 : mkS q ++ (mkS lq).extract m (m + 1) = mkS (q ++ [x]) := by rw [ext_at hx, mkS_cat]
            have hes : ((mkS lq).extract m (m + 1)).size = 1 := by rw [ext_at hx, mkS_size]; rfl
            have hn3 : ¬ 9223372036854775807 < q.length + 1 := by omega
            have g2 : (m : Int) + 1 ≤ (mkS lq).size := by omega
            have g2' : (m : Int) + 1 ≤ lq.length := by omega
            have g3 : (0 : Int) ≤ (m : Int) := by omega
            have g4 : (m : Int) ≤ (m : Int) + 1 := by omega
            have HX10 := Lib.hid h10
            clear hx h10
            go_wp2_with fail
            refine ⟨⟨q ++ [x], m + 1, hml, by go_num, rfl, by rw [List.length_append]; simp; omega, fun c hc => ?_⟩, by simp [intOf]; omega⟩
            rcases List.mem_append.1 hc with hc | hc
            · exact HC.out c hc
            · obtain rfl := List.mem_singleton.1 hc
              exact HX10.out
        · obtain rfl : m = lq.length := by omega
          obtain ⟨ws, hws, hlk⟩ := HQ.out q HC.out
          have hc1 : mkS la ++ ⟨#[32, 35]⟩ = mkS (la ++ [32, 35]) := mkS_cat la [32, 35]
          have hc2 : mkS (la ++ [32, 35]) ++ mkS q = mkS (la ++ 32 :: 35 :: q) := by rw [mkS_cat]; simp
          have hc3 : mkS (la ++ 32 :: 35 :: q) ++ ⟨#[10]⟩ = mkS (la ++ 32 :: 35 :: (q ++ [10])) := (mkS_cat _ [10]).trans (by simp)
          have hc4 : mkS (la ++ 32 :: 35 :: (q ++ [10])) ++ mkS lb = mkS (la ++ 32 :: 35 :: (q ++ 10 :: lb)) := by rw [mkS_cat]; simp
          have z1 : (mkS (la ++ [32, 35])).size = la.length + 2 := by rw [mkS_size]; simp
          have z2 : (mkS (la ++ 32 :: 35 :: q)).size = la.length + 2 + q.length := by rw [mkS_size]; simp; omega
          have z3 : (mkS (la ++ 32 :: 35 :: (q ++ [10]))).size = la.length + 2 + q.length + 1 := by rw [mkS_size]; simp; omega
          have y1 : ¬ 9223372036854775807 < la.length + 2 := by omega
          have y2 : ¬ 9223372036854775807 < la.length + 2 + q.length := by omega
          have y3 : ¬ 9223372036854775807 < la.length + 2 + q.length + 1 := by omega
          have y4 : ¬ 9223372036854775807 < la.length + 2 + q.length + 1 + lb.length := by omega
          have hass : la ++ 32 :: 35 :: q ++ 10 :: lb = la ++ 32 :: 35 :: (q ++ 10 :: lb) := by simp
          rw [hass] at hws
          have KW := tokens18 (mkS (la ++ 32 :: 35 :: (q ++ 10 :: lb))) (by rw [mkS_size]; simp; omega) W0
          simp only [mkS_data, hws] at KW
          have hnw : ws.length = nx + j := by rw [hlk.1, HLN.out.2.2]
          have HW := Lib.hid (And.intro hlk (And.intro hnw (lines_ne hws)))
          replace KW := Lib.hid KW
          clear hws hlk hnw hass
          go_wp2_with fail
          refine KW.out.mono ?_
          rintro e w6 ⟨v, rfl, ⟨r6, rfl, o6⟩, hb6⟩
          obtain ⟨gw, cw, rfl, hrw⟩ := o6.head HW.out.2.2
          rw [HW.out.2.1]
          have H6 := Lib.hid (And.intro hrw hb6)
          clear o6 hrw hb6 hc1 hc2 hc3 hc4 z1 z2 z3 y1 y2 y3 y4
          go_wp2_with fail
          go_loopw [20] (fun i wr => ∃ k : Nat, k ≤ nx + j ∧ i = .int .i64 k ∧ Hid (Below w6.heap.size w6 wr)) (fun i _ => nx + j - (intOf i).toNat)
          case atStart => exact ⟨0, Nat.zero_le _, rfl, Below.refl _ _⟩
          case round =>
            obtain ⟨k, hk, rfl, HK⟩ := hrel
            have hb4r : Below w4.heap.size w4 wr := HX.out.trans ((H6.out.2.trans (HK.out.mono H6.out.2.size)).mono HX.out.size)
            by_cases hkl : k < nx + j
            · obtain ⟨u, hu⟩ : ∃ u, ws[k]? = some u := ⟨ws[k]'(by rw [HW.out.2.1]; exact hkl), List.getElem?_eq_getElem _⟩
              obtain ⟨t, ht⟩ : ∃ t, zs[k]? = some t := ⟨zs[k]'(by rw [HLN.out.2.2]; exact hkl), List.getElem?_eq_getElem _⟩
              obtain ⟨l1, l2, l3⟩ := HW.out.1.2 k u t hu ht
              obtain ⟨c0, _, cr, cx_⟩ := tk_at (range_kept (H6.out.1 k _ hu) HK.out (Nat.le_refl _))
              obtain ⟨d0, _, dr, dx⟩ := tk_at (range_kept (HOZ.out.2.1 k _ ht) hb4r (Nat.le_refl _))
              have l0 : u.kind = t.kind := by unfold Tk.kind; rw [l1]
              rw [l0] at c0
              rw [l2] at cr
              rw [l3] at cx_
              obtain ⟨kd, hkd⟩ : ∃ kd, t.kind = kd := ⟨_, rfl⟩
              obtain ⟨rr, hrr⟩ : ∃ rr, t.row = rr := ⟨_, rfl⟩
              obtain ⟨tx, htx⟩ : ∃ tx, mkS t.text = tx := ⟨_, rfl⟩
              rw [hkd] at c0 d0
              rw [hrr] at cr dr
              rw [htx] at cx_ dx
              have hS : Below wr.heap.size wr wr.drew := (Below.refl _ _).drew
              have R0 : ∀ w', Below wr.heap.size wr w' → w'.cell? ⟨gw, k * 4, none⟩ = some (.int .i64 kd) := fun w' h => (h.cell (p := ⟨gw, k * 4, none⟩) (lt_of_cell' c0)).trans c0
              have R2 : ∀ w', Below wr.heap.size wr w' → w'.cell? ⟨gw, k * 4 + 2, none⟩ = some (.int .i64 rr) := fun w' h => (h.cell (p := ⟨gw, k * 4 + 2, none⟩) (lt_of_cell' cr)).trans cr
              have R3 : ∀ w', Below wr.heap.size wr w' → w'.cell? ⟨gw, k * 4 + 3, none⟩ = some (.string tx) := fun w' h => (h.cell (p := ⟨gw, k * 4 + 3, none⟩) (lt_of_cell' cx_)).trans cx_
              have Q0 : ∀ w', Below wr.heap.size wr w' → w'.cell? ⟨gz, k * 4, none⟩ = some (.int .i64 kd) := fun w' h => (h.cell (p := ⟨gz, k * 4, none⟩) (lt_of_cell' d0)).trans d0
              have Q2 : ∀ w', Below wr.heap.size wr w' → w'.cell? ⟨gz, k * 4 + 2, none⟩ = some (.int .i64 rr) := fun w' h => (h.cell (p := ⟨gz, k * 4 + 2, none⟩) (lt_of_cell' dr)).trans dr
              have Q3 : ∀ w', Below wr.heap.size wr w' → w'.cell? ⟨gz, k * 4 + 3, none⟩ = some (.string tx) := fun w' h => (h.cell (p := ⟨gz, k * 4 + 3, none⟩) (lt_of_cell' dx)).trans dx
              have gk : (k : Int) < (nx : Int) + (j : Int) := by omega
              clear c0 cr cx_ d0 dr dx hu ht l0 l1 l2 l3 hkd hrr htx
              go_wp2_with fail
              refine rg_begin (fun w' => Below wr.heap.size wr w') 37 (by kernel_rfl) rfl ?_
              refine rg_take 0 (v := ?rv8) rfl (by kernel_rfl) (by kernel_rfl) (by kernel_rfl) (fun _ _ _ h => h) (by rfl) hS (fun w2 hw2 => ?ry8) ?rr8
              case ry8 => ((try dsimp only at hw2); go_simp <;> with_reducible rfl)
              simp only [Act.put, List.setIfInBounds_toArray, List.set_cons_zero, List.set_cons_succ]
              refine rg_take 1 (v := ?rv9) rfl (by kernel_rfl) (by kernel_rfl) (by kernel_rfl) (fun _ _ _ h => h) (by rfl) hS (fun w2 hw2 => ?ry9) ?rr9
              case ry9 => ((try dsimp only at hw2); go_simp <;> with_reducible rfl)
              simp only [Act.put, List.setIfInBounds_toArray, List.set_cons_zero, List.set_cons_succ]
              refine rg_take 2 (v := ?rv10) rfl (by kernel_rfl) (by kernel_rfl) (by kernel_rfl) (fun _ _ _ h => h) (by rfl) hS (fun w2 hw2 => ?ry10) ?rr10
              case ry10 => ((try dsimp only at hw2); go_simp <;> with_reducible rfl)
              simp only [Act.put, List.setIfInBounds_toArray, List.set_cons_zero, List.set_cons_succ]
              refine rg_take 3 (v := ?rv11) rfl (by kernel_rfl) (by kernel_rfl) (by kernel_rfl) (fun _ _ _ h => h) (by rfl) hS (fun w2 hw2 => ?ry11) ?rr11
              case ry11 => ((try dsimp only at hw2); go_simp <;> with_reducible rfl)
              simp only [Act.put, List.setIfInBounds_toArray, List.set_cons_zero, List.set_cons_succ]
              refine rg_take 4 (v := ?rv12) rfl (by kernel_rfl) (by kernel_rfl) (by kernel_rfl) (fun _ _ _ h => h) (by rfl) hS (fun w2 hw2 => ?ry12) ?rr12
              case ry12 => ((try dsimp only at hw2); go_simp <;> with_reducible rfl)
              simp only [Act.put, List.setIfInBounds_toArray, List.set_cons_zero, List.set_cons_succ]
              refine rg_take 5 (v := ?rv13) rfl (by kernel_rfl) (by kernel_rfl) (by kernel_rfl) (fun _ _ _ h => h) (by rfl) hS (fun w2 hw2 => ?ry13) ?rr13
              case ry13 => ((try dsimp only at hw2); go_simp <;> with_reducible rfl)
              simp only [Act.put, List.setIfInBounds_toArray, List.set_cons_zero, List.set_cons_succ]
              refine rg_take 6 (v := ?rv14) rfl (by kernel_rfl) (by kernel_rfl) (by kernel_rfl) (fun _ _ _ h => h) (by rfl) hS (fun w2 hw2 => ?ry14) ?rr14
              case ry14 => ((try dsimp only at hw2); go_simp <;> with_reducible rfl)
              simp only [Act.put, List.setIfInBounds_toArray, List.set_cons_zero, List.set_cons_succ]
              refine rg_take 7 (v := ?rv15) rfl (by kernel_rfl) (by kernel_rfl) (by kernel_rfl) (fun _ _ _ h => h) (by rfl) hS (fun w2 hw2 => ?ry15) ?rr15
              case ry15 => ((try dsimp only at hw2); go_simp <;> with_reducible rfl)
              simp only [Act.put, List.setIfInBounds_toArray, List.set_cons_zero, List.set_cons_succ]
              refine rg_take 8 (v := ?rv16) rfl (by kernel_rfl) (by kernel_rfl) (by kernel_rfl) (fun _ _ _ h => h) (by rfl) hS (fun w2 hw2 => ?ry16) ?rr16
              case ry16 => ((try dsimp only at hw2); go_simp <;> with_reducible rfl)
              simp only [Act.put, List.setIfInBounds_toArray, List.set_cons_zero, List.set_cons_succ]
              refine rg_take 9 (v := ?rv17) rfl (by kernel_rfl) (by kernel_rfl) (by kernel_rfl) (fun _ _ _ h => h) (by rfl) hS (fun w2 hw2 => ?ry17) ?rr17
              case ry17 => ((try dsimp only at hw2); go_simp <;> with_reducible rfl)
              simp only [Act.put, List.setIfInBounds_toArray, List.set_cons_zero, List.set_cons_succ]
              refine rg_take 10 (v := ?rv18) rfl (by kernel_rfl) (by kernel_rfl) (by kernel_rfl) (fun _ _ _ h => h) (by rfl) hS (fun w2 hw2 => ?ry18) ?rr18
              case ry18 => ((try dsimp only at hw2); go_simp <;> with_reducible rfl)
              simp only [Act.put, List.setIfInBounds_toArray, List.set_cons_zero, List.set_cons_succ]
              refine rg_take 11 (v := ?rv19) rfl (by kernel_rfl) (by kernel_rfl) (by kernel_rfl) (fun _ _ _ h => h) (by rfl) hS (fun w2 hw2 => ?ry19) ?rr19
              case ry19 => ((try dsimp only at hw2); go_simp <;> with_reducible rfl)
              simp only [Act.put, List.setIfInBounds_toArray, List.set_cons_zero, List.set_cons_succ]
              refine rg_take 12 (v := ?rv20) rfl (by kernel_rfl) (by kernel_rfl) (by kernel_rfl) (fun _ _ _ h => h) (by rfl) hS (fun w2 hw2 => ?ry20) ?rr20
              case ry20 => ((try dsimp only at hw2); go_simp <;> with_reducible rfl)
              simp only [Act.put, List.setIfInBounds_toArray, List.set_cons_zero, List.set_cons_succ]
              refine rg_take 13 (v := ?rv21) rfl (by kernel_rfl) (by kernel_rfl) (by kernel_rfl) (fun _ _ _ h => h) (by rfl) hS (fun w2 hw2 => ?ry21) ?rr21
              case ry21 => ((try dsimp only at hw2); go_simp <;> with_reducible rfl)
              simp only [Act.put, List.setIfInBounds_toArray, List.set_cons_zero, List.set_cons_succ]
              refine rg_take 14 (v := ?rv22) rfl (by kernel_rfl) (by kernel_rfl) (by kernel_rfl) (fun _ _ _ h => h) (by rfl) hS (fun w2 hw2 => ?ry22) ?rr22
              case ry22 => ((try dsimp only at hw2); go_simp <;> with_reducible rfl)
              simp only [Act.put, List.setIfInBounds_toArray, List.set_cons_zero, List.set_cons_succ]
              refine rg_take 15 (v := ?rv23) rfl (by kernel_rfl) (by kernel_rfl) (by kernel_rfl) (fun _ _ _ h => h) (by rfl) hS (fun w2 hw2 => ?ry23) ?rr23
              case ry23 => ((try dsimp only at hw2); go_simp <;> with_reducible rfl)
              simp only [Act.put, List.setIfInBounds_toArray, List.set_cons_zero, List.set_cons_succ]
              refine rg_take 16 (v := ?rv24) rfl (by kernel_rfl) (by kernel_rfl) (by kernel_rfl) (fun _ _ _ h => h) (by rfl) hS (fun w2 hw2 => ?ry24) ?rr24
              case ry24 => ((try dsimp only at hw2); go_simp <;> with_reducible rfl)
              simp only [Act.put, List.setIfInBounds_toArray, List.set_cons_zero, List.set_cons_succ]
              refine rg_take 17 (v := ?rv25) rfl (by kernel_rfl) (by kernel_rfl) (by kernel_rfl) (fun _ _ _ h => h) (by rfl) hS (fun w2 hw2 => ?ry25) ?rr25
              case ry25 => ((try dsimp only at hw2); go_simp <;> with_reducible rfl)
              simp only [Act.put, List.setIfInBounds_toArray, List.set_cons_zero, List.set_cons_succ]
              refine rg_take 18 (v := ?rv26) rfl (by kernel_rfl) (by kernel_rfl) (by kernel_rfl) (fun _ _ _ h => h) (by rfl) hS (fun w2 hw2 => ?ry26) ?rr26
              case ry26 => ((try dsimp only at hw2); go_simp <;> with_reducible rfl)
              simp only [Act.put, List.setIfInBounds_toArray, List.set_cons_zero, List.set_cons_succ]
              refine rg_take 19 (v := ?rv27) rfl (by kernel_rfl) (by kernel_rfl) (by kernel_rfl) (fun _ _ _ h => h) (by rfl) hS (fun w2 hw2 => ?ry27) ?rr27
              case ry27 => ((try dsimp only at hw2); go_simp <;> with_reducible rfl)
              simp only [Act.put, List.setIfInBounds_toArray, List.set_cons_zero, List.set_cons_succ]
              refine rg_take 20 (v := ?rv28) rfl (by kernel_rfl) (by kernel_rfl) (by kernel_rfl) (fun _ _ _ h => h) (by rfl) hS (fun w2 hw2 => ?ry28) ?rr28
              case ry28 => ((try dsimp only at hw2); go_simp <;> with_reducible rfl)
              simp only [Act.put, List.setIfInBounds_toArray, List.set_cons_zero, List.set_cons_succ]
              refine rg_take 21 (v := ?rv29) rfl (by kernel_rfl) (by kernel_rfl) (by kernel_rfl) (fun _ _ _ h => h) (by rfl) hS (fun w2 hw2 => ?ry29) ?rr29
              case ry29 => ((try dsimp only at hw2); go_simp <;> with_reducible rfl)
              simp only [Act.put, List.setIfInBounds_toArray, List.set_cons_zero, List.set_cons_succ]
              refine rg_take 22 (v := ?rv30) rfl (by kernel_rfl) (by kernel_rfl) (by kernel_rfl) (fun _ _ _ h => h) (by rfl) hS (fun w2 hw2 => ?ry30) ?rr30
              case ry30 => ((try dsimp only at hw2); go_simp <;> with_reducible rfl)
              simp only [Act.put, List.setIfInBounds_toArray, List.set_cons_zero, List.set_cons_succ]
              refine rg_take 23 (v := ?rv31) rfl (by kernel_rfl) (by kernel_rfl) (by kernel_rfl) (fun _ _ _ h => h) (by rfl) hS (fun w2 hw2 => ?ry31) ?rr31
              case ry31 => ((try dsimp only at hw2); go_simp <;> with_reducible rfl)
              simp only [Act.put, List.setIfInBounds_toArray, List.set_cons_zero, List.set_cons_succ]
              refine rg_take 24 (v := ?rv32) rfl (by kernel_rfl) (by kernel_rfl) (by kernel_rfl) (fun _ _ _ h => h) (by rfl) hS (fun w2 hw2 => ?ry32) ?rr32
              case ry32 => ((try dsimp only at hw2); go_simp <;> with_reducible rfl)
              simp only [Act.put, List.setIfInBounds_toArray, List.set_cons_zero, List.set_cons_succ]
              refine rg_take 25 (v := ?rv33) rfl (by kernel_rfl) (by kernel_rfl) (by kernel_rfl) (fun _ _ _ h => h) (by rfl) hS (fun w2 hw2 => ?ry33) ?rr33
              case ry33 => ((try dsimp only at hw2); go_simp <;> with_reducible rfl)
              simp only [Act.put, List.setIfInBounds_toArray, List.set_cons_zero, List.set_cons_succ]
              refine rg_take 26 (v := ?rv34) rfl (by kernel_rfl) (by kernel_rfl) (by kernel_rfl) (fun _ _ _ h => h) (by rfl) hS (fun w2 hw2 => ?ry34) ?rr34
              case ry34 => ((try dsimp only at hw2); go_simp <;> with_reducible rfl)
              simp only [Act.put, List.setIfInBounds_toArray, List.set_cons_zero, List.set_cons_succ]
              refine rg_take 27 (v := ?rv35) rfl (by kernel_rfl) (by kernel_rfl) (by kernel_rfl) (fun _ _ _ h => h) (by rfl) hS (fun w2 hw2 => ?ry35) ?rr35
              case ry35 => ((try dsimp only at hw2); go_simp <;> with_reducible rfl)
              simp only [Act.put, List.setIfInBounds_toArray, List.set_cons_zero, List.set_cons_succ]
              refine rg_take 28 (v := ?rv36) rfl (by kernel_rfl) (by kernel_rfl) (by kernel_rfl) (fun _ _ _ h => h) (by rfl) hS (fun w2 hw2 => ?ry36) ?rr36
              case ry36 => ((try dsimp only at hw2); go_simp <;> with_reducible rfl)
              simp only [Act.put, List.setIfInBounds_toArray, List.set_cons_zero, List.set_cons_succ]
              refine rg_take 29 (v := ?rv37) rfl (by kernel_rfl) (by kernel_rfl) (by kernel_rfl) (fun _ _ _ h => h) (by rfl) hS (fun w2 hw2 => ?ry37) ?rr37
              case ry37 => ((try dsimp only at hw2); go_simp <;> with_reducible rfl)
              simp only [Act.put, List.setIfInBounds_toArray, List.set_cons_zero, List.set_cons_succ]
              refine rg_take 30 (v := ?rv38) rfl (by kernel_rfl) (by kernel_rfl) (by kernel_rfl) (fun _ _ _ h => h) (by rfl) hS (fun w2 hw2 => ?ry38) ?rr38
              case ry38 => ((try dsimp only at hw2); go_simp <;> with_reducible rfl)
              simp only [Act.put, List.setIfInBounds_toArray, List.set_cons_zero, List.set_cons_succ]
              refine rg_take 31 (v := ?rv39) rfl (by kernel_rfl) (by kernel_rfl) (by kernel_rfl) (fun _ _ _ h => h) (by rfl) hS (fun w2 hw2 => ?ry39) ?rr39
              case ry39 => ((try dsimp only at hw2); go_simp <;> with_reducible rfl)
              simp only [Act.put, List.setIfInBounds_toArray, List.set_cons_zero, List.set_cons_succ]
              refine rg_take 32 (v := ?rv40) rfl (by kernel_rfl) (by kernel_rfl) (by kernel_rfl) (fun _ _ _ h => h) (by rfl) hS (fun w2 hw2 => ?ry40) ?rr40
              case ry40 => ((try dsimp only at hw2); go_simp <;> with_reducible rfl)
              simp only [Act.put, List.setIfInBounds_toArray, List.set_cons_zero, List.set_cons_succ]
              refine rg_take 33 (v := ?rv41) rfl (by kernel_rfl) (by kernel_rfl) (by kernel_rfl) (fun _ _ _ h => h) (by rfl) hS (fun w2 hw2 => ?ry41) ?rr41
              case ry41 => ((try dsimp only at hw2); go_simp <;> with_reducible rfl)
              simp only [Act.put, List.setIfInBounds_toArray, List.set_cons_zero, List.set_cons_succ]
              refine rg_take 34 (v := ?rv42) rfl (by kernel_rfl) (by kernel_rfl) (by kernel_rfl) (fun _ _ _ h => h) (by rfl) hS (fun w2 hw2 => ?ry42) ?rr42
              case ry42 => ((try dsimp only at hw2); go_simp <;> with_reducible rfl)
              simp only [Act.put, List.setIfInBounds_toArray, List.set_cons_zero, List.set_cons_succ]
              refine rg_take 35 (v := ?rv43) rfl (by kernel_rfl) (by kernel_rfl) (by kernel_rfl) (fun _ _ _ h => h) (by rfl) hS (fun w2 hw2 => ?ry43) ?rr43
              case ry43 => ((try dsimp only at hw2); go_simp <;> with_reducible rfl)
              simp only [Act.put, List.setIfInBounds_toArray, List.set_cons_zero, List.set_cons_succ]
              refine rg_take 36 (v := ?rv44) rfl (by kernel_rfl) (by kernel_rfl) (by kernel_rfl) (fun _ _ _ h => h) (by rfl) hS (fun w2 hw2 => ?ry44) ?rr44
              case ry44 => ((try dsimp only at hw2); go_simp <;> with_reducible rfl)
              simp only [Act.put, List.setIfInBounds_toArray, List.set_cons_zero, List.set_cons_succ]
              refine rg_done (by kernel_rfl) ?_
              have HS := Lib.hid (HK.out.trans (hS.mono HK.out.size))
              clear hS R0 R2 R3 Q0 Q2 Q3
              go_wp2_with fail
              exact ⟨⟨k + 1, hkl, by go_num, HS.out⟩, by simp [intOf]; omega⟩
            · obtain rfl : k = nx + j := by omega
              have K9 := Lib.hid (awake18 wr)
              have HB4 := Lib.hid hb4r
              clear hb4r
              go_wp2_with fail
              refine K9.out.mono ?_
              rintro e w9 ⟨rfl, hb9⟩
              have H9 := Lib.hid (H4.out.1.trans ((HB4.out.trans (hb9.mono HB4.out.size)).mono H4.out.1.size))
              clear hb9
              go_wp2_with fail
              go_ret
              exact ⟨rfl, H9.out⟩
theorem lexerLines (a b q : ByteArray) (w : World) : Calls Try.prog 4 #[.string a, .string b, .string q] w fun e w' => e = .returned (.bool true) ∧ Below w.heap.size w w' := by
  by_cases h : 500 < a.size ∨ (¬ 500 < a.size ∧ 500 < b.size) ∨ (¬ 500 < a.size ∧ ¬ 500 < b.size ∧ 500 < q.size)
  · exact lines_big a b q h w
  have ha : a.size ≤ 500 := by omega
  have hb : b.size ≤ 500 := by omega
  have hq : q.size ≤ 500 := by omega
  clear h
  obtain ⟨la, rfl⟩ : ∃ la, a = mkS la := ⟨_, (mkS_back a).symm⟩
  obtain ⟨lb, rfl⟩ : ∃ lb, b = mkS lb := ⟨_, (mkS_back b).symm⟩
  obtain ⟨lq, rfl⟩ : ∃ lq, q = mkS lq := ⟨_, (mkS_back q).symm⟩
  rw [mkS_size] at ha hb hq
  cases hx : lexM .gap 0 1 la with
  | inl p =>
    cases hy : lexM .gap 0 1 lb with
    | inl p2 => exact lines_ll ha hb hq hx hy w
    | inr ys => exact lines_lr ha hb hq hx hy w
  | inr xs =>
    cases hy : lexM .gap 0 1 lb with
    | inl p2 => exact lines_rl ha hb hq hx hy w
    | inr ys => exact lines_rr ha hb hq hx hy w
end Go.Proofs.Ytiggfoghogecjaa
