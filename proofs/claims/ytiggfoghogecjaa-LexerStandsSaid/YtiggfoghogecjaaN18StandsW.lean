/-
  Package stockadelaw18's LexerStands: true, whatever the text. No conditions.
-/
import Derived.Test.YtiggfoghogecjaaAw18
namespace Go.Proofs.Ytiggfoghogecjaa
open Go.RowKit
set_option maxRecDepth 100000

theorem drop_tk {ts : List Tk} {k : Nat} {t : Tk} (h : ts[k]? = some t) : ts.drop k = t :: ts.drop (k + 1) := by
  obtain ⟨hk, rfl⟩ := List.getElem?_eq_some_iff.1 h
  exact List.drop_eq_getElem_cons hk
/-- What is known of the words from the k-th on. -/
def StF (l : List UInt8) (r' : Nat) (row lo : Nat) (ts : List Tk) : Prop := standsF l row lo ts ∧ (ts = [] → row = r' + 1) ∧ (ts ≠ [] → ts.getLast? = some ⟨false, l.length, r', []⟩)
theorem StF.next {l : List UInt8} {r' row lo : Nat} {t : Tk} {ts : List Tk} (h : StF l r' row lo (t :: ts)) : t.row = row ∧ lo ≤ t.at_ ∧ t.at_ + t.text.length ≤ l.length ∧ (t.word = true → t.text ≠ [] ∧ (l.drop t.at_).take t.text.length = t.text ∧ ∀ c ∈ t.text, wordB c = true) ∧ (t.word = false → t.text = [] ∧ (t.at_ < l.length → l[t.at_]? = some 10)) ∧ StF l r' (if t.word then row else row + 1) (t.at_ + t.text.length) ts := by
  obtain ⟨⟨h1, h2, h3, h4, h5, h6⟩, _, h8⟩ := h
  refine ⟨h1, h2, h3, h4, h5, h6, fun he => ?_, fun hne => ?_⟩
  · subst he
    have := h8 (by simp)
    obtain rfl : t = _ := by simpa using this
    rw [if_neg (show ¬ (false = true) by decide)]
    exact congrArg (· + 1) h1.symm
  · have := h8 (by simp)
    rwa [List.getLast?_cons_of_ne_nil hne] at this
theorem stF_start {l : List UInt8} {ts : List Tk} (h : lexM .gap 0 1 l = .inr ts) : ∃ r', StF l r' 1 0 ts ∧ ts ≠ [] := by
  obtain ⟨h1, us, r', h2⟩ := lexM_stands l l .gap 0 1 ts rfl (Nat.zero_le _) trivial h
  refine ⟨r', ⟨h1, fun he => ?_, fun _ => by rw [h2]; simp⟩, by rw [h2]; simp⟩
  rw [h2] at he
  simp at he
set_option maxHeartbeats 4000000 in
theorem lexerStands (s : ByteArray) (w : World) : Calls Try.prog 3 #[.string s] w fun e w' => e = .returned (.bool true) ∧ Below w.heap.size w w' := by
  by_cases hbig : 3000 < s.size
  · have K := Lib.hid (awake18 w)
    go_enter Try.func3, Try.ntmps3
    go_wp2_with fail
    refine K.out.mono ?_
    rintro e w' ⟨rfl, hb⟩
    have HB := Lib.hid hb
    clear hb
    go_wp2_with fail
    go_ret
    exact ⟨rfl, HB.out⟩
  have HL := Lib.hid (Lib.size_eq s).symm
  have K := Lib.hid (tokens18 s (by omega) w)
  cases hlex : lexM .gap 0 1 s.data.toList with
  | inl p =>
    rw [hlex] at K
    clear hlex
    go_enter Try.func3, Try.ntmps3
    go_wp2_with fail
    refine K.out.mono ?_
    rintro e w' ⟨v, rfl, ⟨er, rfl, g, rfl, _⟩, hb⟩
    have K2 := Lib.hid (awake18 w')
    have HB := Lib.hid hb
    clear hb
    go_wp2_with fail
    refine K2.out.mono ?_
    rintro e w2 ⟨rfl, hb2⟩
    have HB2 := Lib.hid (HB.out.trans (hb2.mono HB.out.size))
    clear hb2
    go_wp2_with fail
    go_ret
    exact ⟨rfl, HB2.out⟩
  | inr ts =>
    rw [hlex] at K
    obtain ⟨r', hst, hne⟩ := stF_start hlex
    have hcount := (lexM_count _ _ _ _ _ hlex).1
    rw [HL.out] at hcount
    simp only [Md.flush, List.length_nil, Nat.add_zero] at hcount
    have HST := Lib.hid (And.intro hst hne)
    clear hlex hst hne
    go_enter Try.func3, Try.ntmps3
    go_wp2_with fail
    refine K.out.mono ?_
    rintro e w1 ⟨v, rfl, ⟨rv, rfl, ho⟩, hb⟩
    obtain ⟨g, c, rfl, hc⟩ := ho.head HST.out.2
    obtain ⟨n, hn⟩ : ∃ n, ts.length = n := ⟨_, rfl⟩
    rw [hn] at hcount ⊢
    have HO := Lib.hid (And.intro ho (And.intro hc (And.intro hb hn)))
    clear ho hc hb hn
    go_wp2_with fail
    go_loopw [5, 6, 7] (fun r a i wr => ∃ (k row lo : Nat), r = .int .i64 row ∧ a = .int .i64 lo ∧ i = .int .i64 k ∧ k ≤ n ∧ row ≤ k + 1 ∧ lo ≤ s.size ∧ Hid (StF s.data.toList r' row lo (ts.drop k) ∧ Below w1.heap.size w1 wr)) (fun _ _ i _ => n - (intOf i).toNat)
    case atStart => exact ⟨0, 1, 0, rfl, rfl, rfl, Nat.zero_le _, by omega, Nat.zero_le _, HST.out.1, Below.refl _ _⟩
    case round =>
      obtain ⟨k, row, lo, rfl, rfl, rfl, hk, hrow, hlo, HX⟩ := hrel
      by_cases hlt : k < n
      · obtain ⟨t, ht⟩ : ∃ t, ts[k]? = some t := ⟨ts[k]'(by rw [HO.out.2.2.2]; exact hlt), List.getElem?_eq_getElem _⟩
        have hd := drop_tk ht
        have hx := HX.out.1
        rw [hd] at hx
        obtain ⟨t1, t2, t3, t4, t5, t6⟩ := hx.next
        have hr := range_kept (HO.out.2.1 k t ht) HX.out.2 (Nat.le_refl _)
        obtain ⟨wd, q, row2, u⟩ := t
        dsimp only at t1 t2 t3 t4 t5 t6
        subst t1
        rw [← Lib.size_eq] at t3 t5
        clear hx hd ht
        cases wd with
        | false =>
          obtain ⟨rfl, t6'⟩ := t5 rfl
          rw [if_neg (show ¬ (false = true) by decide)] at t6
          obtain ⟨T, hT⟩ : ∃ T : Tk, T = ⟨false, q, row2, []⟩ := ⟨_, rfl⟩
          rw [← hT] at hr
          have HC0 := Lib.hid (show (tkv T)[0]? = some (.int .i64 2) by rw [hT]; rfl)
          have HC1 := Lib.hid (show (tkv T)[1]? = some (.int .i64 q) by rw [hT]; rfl)
          have HC2 := Lib.hid (show (tkv T)[2]? = some (.int .i64 row2) by rw [hT]; rfl)
          have HC3 := Lib.hid (show (tkv T)[3]? = some (.string ⟨#[]⟩) by rw [hT]; rfl)
          have HF := Lib.hid t6
          clear t4 t5 t6 hT
          by_cases hq : q < s.size
          · obtain ⟨x, hx, hsk⟩ := str_at (s := s) (i := q) hq
            have hx2 := t6' hq
            rw [hx] at hx2
            obtain rfl := Option.some.inj hx2
            have e10 : (((10 : UInt8).toNat : Int) != 10) = false := rfl
            clear hx hx2 t6'
            go_wp2_with (first
          | (refine wpList_load_tk rfl (.tmp 35) rfl (b := g) (f := k * 4) rfl hr ?_)
          | (refine wpList_alloc_tk rfl rfl ?_; intro wa a1 b1 s1; refine wpList_store_tk rfl (.tmp 8) (.tmp 36) rfl T rfl rfl rfl a1 ?_; intro wb a2 _ s2 t2; have HB := Lib.hid (And.intro a2 (HX.out.2.trans ((t2 _ _ (Nat.le_refl _) b1).mono HX.out.2.size))); have e0 := a2.cell 0; have e1 := a2.cell 1; have e2 := a2.cell 2; have e3 := a2.cell 3; rw [HC0.out] at e0; rw [HC1.out] at e1; rw [HC2.out] at e2; rw [HC3.out] at e3; clear a1 b1 s1 a2 s2 t2))
            refine ⟨⟨k + 1, row2 + 1, q, by go_num, by go_num, by go_num, hlt, by omega, by omega, HF.out, HB.out.2⟩, by simp [intOf]; omega⟩
          · clear t6'
            go_wp2_with (first
          | (refine wpList_load_tk rfl (.tmp 35) rfl (b := g) (f := k * 4) rfl hr ?_)
          | (refine wpList_alloc_tk rfl rfl ?_; intro wa a1 b1 s1; refine wpList_store_tk rfl (.tmp 8) (.tmp 36) rfl T rfl rfl rfl a1 ?_; intro wb a2 _ s2 t2; have HB := Lib.hid (And.intro a2 (HX.out.2.trans ((t2 _ _ (Nat.le_refl _) b1).mono HX.out.2.size))); have e0 := a2.cell 0; have e1 := a2.cell 1; have e2 := a2.cell 2; have e3 := a2.cell 3; rw [HC0.out] at e0; rw [HC1.out] at e1; rw [HC2.out] at e2; rw [HC3.out] at e3; clear a1 b1 s1 a2 s2 t2))
            refine ⟨⟨k + 1, row2 + 1, q, by go_num, by go_num, by go_num, hlt, by omega, by omega, HF.out, HB.out.2⟩, by simp [intOf]; omega⟩
        | true =>
          obtain ⟨u1, u2, u3⟩ := t4 rfl
          rw [if_pos rfl] at t6
          obtain ⟨T, hT⟩ : ∃ T : Tk, T = ⟨true, q, row2, u⟩ := ⟨_, rfl⟩
          rw [← hT] at hr
          obtain ⟨m, hm⟩ : ∃ m, u.length = m := ⟨_, rfl⟩
          rw [hm] at t3 t6
          obtain ⟨sx, hsx⟩ : ∃ sx, mkS u = sx := ⟨_, rfl⟩
          have hsz : sx.size = m := by rw [← hsx, mkS_size, hm]
          have hmp : 0 < m := by rw [← hm]; exact List.length_pos_iff.2 u1
          have HC0 := Lib.hid (show (tkv T)[0]? = some (.int .i64 1) by rw [hT]; rfl)
          have HC1 := Lib.hid (show (tkv T)[1]? = some (.int .i64 q) by rw [hT]; rfl)
          have HC2 := Lib.hid (show (tkv T)[2]? = some (.int .i64 row2) by rw [hT]; rfl)
          have HC3 := Lib.hid (show (tkv T)[3]? = some (.string sx) by rw [hT, ← hsx]; rfl)
          have HU := Lib.hid (And.intro u3 (show sx.data.toList = u by rw [← hsx, mkS_data]))
          have hee : sx.toList.isEmpty = false := by
            rw [Lib.toList_data, HU.out.2]
            cases u with
            | nil => exact absurd rfl u1
            | cons _ _ => rfl
          have hxt : s.extract q (q + m) = sx := by
            rw [← mkS_back (s.extract q (q + m)), cut_piece, Nat.add_sub_cancel_left, ← hm, u2, hsx]
          have HE := Lib.hid hxt
          have HF := Lib.hid t6
          clear t4 t5 t6 hT u1 u2 u3 hxt hm hsx
          go_wp2_with (first
          | (refine wpList_load_tk rfl (.tmp 35) rfl (b := g) (f := k * 4) rfl hr ?_)
          | (refine wpList_alloc_tk rfl rfl ?_; intro wa a1 b1 s1; refine wpList_store_tk rfl (.tmp 8) (.tmp 36) rfl T rfl rfl rfl a1 ?_; intro wb a2 _ s2 t2; have HB := Lib.hid (And.intro a2 (HX.out.2.trans ((t2 _ _ (Nat.le_refl _) b1).mono HX.out.2.size))); have e0 := a2.cell 0; have e1 := a2.cell 1; have e2 := a2.cell 2; have e3 := a2.cell 3; rw [HC0.out] at e0; rw [HC1.out] at e1; rw [HC2.out] at e2; rw [HC3.out] at e3; clear a1 b1 s1 a2 s2 t2))
          have hS : Below wb.heap.size wb wb.drew := (Below.refl _ _).drew
          have lt8 := lt_of_cell' e0
          have hS0 := hS
          have R0 : ∀ w', Below wb.heap.size wb w' → w'.cell? ⟨wr.heap.size, 0, none⟩ = some (.int .i64 1) := fun w' h => (h.cell (p := ⟨wr.heap.size, 0, none⟩) lt8).trans e0
          have R1 : ∀ w', Below wb.heap.size wb w' → w'.cell? ⟨wr.heap.size, 1, none⟩ = some (.int .i64 q) := fun w' h => (h.cell (p := ⟨wr.heap.size, 1, none⟩) lt8).trans e1
          have R3 : ∀ w', Below wb.heap.size wb w' → w'.cell? ⟨wr.heap.size, 3, none⟩ = some (.string sx) := fun w' h => (h.cell (p := ⟨wr.heap.size, 3, none⟩) lt8).trans e3
          have g2 : (q : Int) + m ≤ s.size := by omega
          have g3 : (0 : Int) ≤ (q : Int) := by omega
          have g4 : (q : Int) ≤ (q : Int) + m := by omega
          have g5 : ¬ ((s.size : Int) < (q : Int) + m) := by omega
          clear e0 e1 e2 e3
          refine rg_begin (fun w' => Below wb.heap.size wb w') 24 (by kernel_rfl) rfl ?_
          refine rg_take 0 (v := ?rv1) rfl (by kernel_rfl) (by kernel_rfl) (by kernel_rfl) (fun _ _ _ h => h) (by rfl) hS (fun w2 hw2 => ?ry1) ?rr1
          case ry1 => ((try dsimp only at hw2); go_simp <;> with_reducible rfl)
          simp only [Act.put, List.setIfInBounds_toArray, List.set_cons_zero, List.set_cons_succ]
          refine rg_take 1 (v := ?rv2) rfl (by kernel_rfl) (by kernel_rfl) (by kernel_rfl) (fun _ _ _ h => h) (by rfl) hS (fun w2 hw2 => ?ry2) ?rr2
          case ry2 => ((try dsimp only at hw2); go_simp <;> with_reducible rfl)
          simp only [Act.put, List.setIfInBounds_toArray, List.set_cons_zero, List.set_cons_succ]
          refine rg_take 2 (v := ?rv3) rfl (by kernel_rfl) (by kernel_rfl) (by kernel_rfl) (fun _ _ _ h => h) (by rfl) hS (fun w2 hw2 => ?ry3) ?rr3
          case ry3 => ((try dsimp only at hw2); go_simp <;> with_reducible rfl)
          simp only [Act.put, List.setIfInBounds_toArray, List.set_cons_zero, List.set_cons_succ]
          refine rg_take 3 (v := ?rv4) rfl (by kernel_rfl) (by kernel_rfl) (by kernel_rfl) (fun _ _ _ h => h) (by rfl) hS (fun w2 hw2 => ?ry4) ?rr4
          case ry4 => ((try dsimp only at hw2); go_simp <;> with_reducible rfl)
          simp only [Act.put, List.setIfInBounds_toArray, List.set_cons_zero, List.set_cons_succ]
          refine rg_take 4 (v := ?rv5) rfl (by kernel_rfl) (by kernel_rfl) (by kernel_rfl) (fun _ _ _ h => h) (by rfl) hS (fun w2 hw2 => ?ry5) ?rr5
          case ry5 => ((try dsimp only at hw2); go_simp <;> with_reducible rfl)
          simp only [Act.put, List.setIfInBounds_toArray, List.set_cons_zero, List.set_cons_succ]
          refine rg_take 5 (v := ?rv6) rfl (by kernel_rfl) (by kernel_rfl) (by kernel_rfl) (fun _ _ _ h => h) (by rfl) hS (fun w2 hw2 => ?ry6) ?rr6
          case ry6 => ((try dsimp only at hw2); go_simp <;> with_reducible rfl)
          simp only [Act.put, List.setIfInBounds_toArray, List.set_cons_zero, List.set_cons_succ]
          refine rg_take 6 (v := ?rv7) rfl (by kernel_rfl) (by kernel_rfl) (by kernel_rfl) (fun _ _ _ h => h) (by rfl) hS (fun w2 hw2 => ?ry7) ?rr7
          case ry7 => ((try dsimp only at hw2); go_simp <;> with_reducible rfl)
          simp only [Act.put, List.setIfInBounds_toArray, List.set_cons_zero, List.set_cons_succ]
          refine rg_take 7 (v := ?rv8) rfl (by kernel_rfl) (by kernel_rfl) (by kernel_rfl) (fun _ _ _ h => h) (by rfl) hS (fun w2 hw2 => ?ry8) ?rr8
          case ry8 => ((try dsimp only at hw2); go_simp <;> with_reducible rfl)
          simp only [Act.put, List.setIfInBounds_toArray, List.set_cons_zero, List.set_cons_succ]
          refine rg_take 8 (v := ?rv9) rfl (by kernel_rfl) (by kernel_rfl) (by kernel_rfl) (fun _ _ _ h => h) (by rfl) hS (fun w2 hw2 => ?ry9) ?rr9
          case ry9 => ((try dsimp only at hw2); go_simp <;> with_reducible rfl)
          simp only [Act.put, List.setIfInBounds_toArray, List.set_cons_zero, List.set_cons_succ]
          refine rg_take 9 (v := ?rv10) rfl (by kernel_rfl) (by kernel_rfl) (by kernel_rfl) (fun _ _ _ h => h) (by rfl) hS (fun w2 hw2 => ?ry10) ?rr10
          case ry10 => ((try dsimp only at hw2); go_simp <;> with_reducible rfl)
          simp only [Act.put, List.setIfInBounds_toArray, List.set_cons_zero, List.set_cons_succ]
          refine rg_take 10 (v := ?rv11) rfl (by kernel_rfl) (by kernel_rfl) (by kernel_rfl) (fun _ _ _ h => h) (by rfl) hS (fun w2 hw2 => ?ry11) ?rr11
          case ry11 => ((try dsimp only at hw2); go_simp <;> with_reducible rfl)
          simp only [Act.put, List.setIfInBounds_toArray, List.set_cons_zero, List.set_cons_succ]
          refine rg_take 11 (v := ?rv12) rfl (by kernel_rfl) (by kernel_rfl) (by kernel_rfl) (fun _ _ _ h => h) (by rfl) hS (fun w2 hw2 => ?ry12) ?rr12
          case ry12 => ((try dsimp only at hw2); go_simp <;> with_reducible rfl)
          simp only [Act.put, List.setIfInBounds_toArray, List.set_cons_zero, List.set_cons_succ]
          refine rg_take 12 (v := ?rv13) rfl (by kernel_rfl) (by kernel_rfl) (by kernel_rfl) (fun _ _ _ h => h) (by rfl) hS (fun w2 hw2 => ?ry13) ?rr13
          case ry13 => ((try dsimp only at hw2); go_simp <;> with_reducible rfl)
          simp only [Act.put, List.setIfInBounds_toArray, List.set_cons_zero, List.set_cons_succ]
          refine rg_take 13 (v := ?rv14) rfl (by kernel_rfl) (by kernel_rfl) (by kernel_rfl) (fun _ _ _ h => h) (by rfl) hS (fun w2 hw2 => ?ry14) ?rr14
          case ry14 => ((try dsimp only at hw2); go_simp <;> with_reducible rfl)
          simp only [Act.put, List.setIfInBounds_toArray, List.set_cons_zero, List.set_cons_succ]
          refine rg_take 14 (v := ?rv15) rfl (by kernel_rfl) (by kernel_rfl) (by kernel_rfl) (fun _ _ _ h => h) (by rfl) hS (fun w2 hw2 => ?ry15) ?rr15
          case ry15 => ((try dsimp only at hw2); go_simp <;> with_reducible rfl)
          simp only [Act.put, List.setIfInBounds_toArray, List.set_cons_zero, List.set_cons_succ]
          refine rg_take 15 (v := ?rv16) rfl (by kernel_rfl) (by kernel_rfl) (by kernel_rfl) (fun _ _ _ h => h) (by rfl) hS (fun w2 hw2 => ?ry16) ?rr16
          case ry16 => ((try dsimp only at hw2); go_simp <;> with_reducible rfl)
          simp only [Act.put, List.setIfInBounds_toArray, List.set_cons_zero, List.set_cons_succ]
          refine rg_take 16 (v := ?rv17) rfl (by kernel_rfl) (by kernel_rfl) (by kernel_rfl) (fun _ _ _ h => h) (by rfl) hS (fun w2 hw2 => ?ry17) ?rr17
          case ry17 => ((try dsimp only at hw2); go_simp <;> with_reducible rfl)
          simp only [Act.put, List.setIfInBounds_toArray, List.set_cons_zero, List.set_cons_succ]
          refine rg_take 17 (v := ?rv18) rfl (by kernel_rfl) (by kernel_rfl) (by kernel_rfl) (fun _ _ _ h => h) (by rfl) hS (fun w2 hw2 => ?ry18) ?rr18
          case ry18 => ((try dsimp only at hw2); go_simp <;> with_reducible rfl)
          simp only [Act.put, List.setIfInBounds_toArray, List.set_cons_zero, List.set_cons_succ]
          refine rg_take 18 (v := ?rv19) rfl (by kernel_rfl) (by kernel_rfl) (by kernel_rfl) (fun _ _ _ h => h) (by rfl) hS (fun w2 hw2 => ?ry19) ?rr19
          case ry19 => ((try dsimp only at hw2); go_simp <;> with_reducible rfl)
          simp only [Act.put, List.setIfInBounds_toArray, List.set_cons_zero, List.set_cons_succ]
          refine rg_take 19 (v := .string sx) rfl (by kernel_rfl) (by kernel_rfl) (by kernel_rfl) (fun _ _ _ h => h) (by rfl) hS (fun w2 hw2 => ?ryA) ?rrA
          case ryA => ((try dsimp only at hw2); go_simp; rw [← HE.out]; rfl)
          simp only [Act.put, List.setIfInBounds_toArray, List.set_cons_zero, List.set_cons_succ]
          refine rg_take 20 (v := ?rv20) rfl (by kernel_rfl) (by kernel_rfl) (by kernel_rfl) (fun _ _ _ h => h) (by rfl) hS (fun w2 hw2 => ?ry20) ?rr20
          case ry20 => ((try dsimp only at hw2); go_simp <;> with_reducible rfl)
          simp only [Act.put, List.setIfInBounds_toArray, List.set_cons_zero, List.set_cons_succ]
          refine rg_take 21 (v := ?rv21) rfl (by kernel_rfl) (by kernel_rfl) (by kernel_rfl) (fun _ _ _ h => h) (by rfl) hS (fun w2 hw2 => ?ry21) ?rr21
          case ry21 => ((try dsimp only at hw2); go_simp <;> with_reducible rfl)
          simp only [Act.put, List.setIfInBounds_toArray, List.set_cons_zero, List.set_cons_succ]
          refine rg_take 22 (v := ?rv22) rfl (by kernel_rfl) (by kernel_rfl) (by kernel_rfl) (fun _ _ _ h => h) (by rfl) hS (fun w2 hw2 => ?ry22) ?rr22
          case ry22 => ((try dsimp only at hw2); go_simp <;> with_reducible rfl)
          simp only [Act.put, List.setIfInBounds_toArray, List.set_cons_zero, List.set_cons_succ]
          refine rg_take 23 (v := ?rv23) rfl (by kernel_rfl) (by kernel_rfl) (by kernel_rfl) (fun _ _ _ h => h) (by rfl) hS (fun w2 hw2 => ?ry23) ?rr23
          case ry23 => ((try dsimp only at hw2); go_simp <;> with_reducible rfl)
          simp only [Act.put, List.setIfInBounds_toArray, List.set_cons_zero, List.set_cons_succ]
          refine rg_done (by kernel_rfl) ?_
          have HS := Lib.hid (HB.out.2.trans (hS.mono HB.out.2.size))
          have e3 := R3 _ hS
          clear hS hS0 R0 R1 R3 lt8 g5
          go_wp2_with fail
          go_loop [9] (fun i => ∃ j : Nat, j ≤ m ∧ i = .int .i64 j) (fun i => m - (intOf i).toNat)
          case atStart => exact ⟨0, Nat.zero_le _, rfl⟩
          case round =>
            obtain ⟨j, hj, rfl⟩ := hrel
            by_cases hjm : j < m
            · obtain ⟨x, hx, hsk⟩ := str_at (s := sx) (i := j) (by omega)
              have hw := HU.out.1 x (by rw [← HU.out.2]; exact List.mem_of_getElem? hx)
              unfold wordB at hw
              simp only [Bool.and_eq_true, decide_eq_true_eq, bne_iff_ne] at hw
              obtain ⟨⟨w1_, w2_⟩, w3_⟩ := hw
              have e35 : ((x.toNat : Int) == 35) = false := by
                rw [beq_eq_false_iff_ne]
                intro h
                apply w3_
                apply UInt8.toNat_inj.1
                show x.toNat = 35
                omega
              have e33 : ¬ x.toNat < 33 := by omega
              have e126 : ¬ 126 < x.toNat := by omega
              clear hx w3_
              go_wp2_with fail
              exact ⟨⟨j + 1, hjm, by omega⟩, by simp [intOf]; omega⟩
            · obtain rfl : j = m := by omega
              go_wp2_with fail
              exact ⟨⟨k + 1, row2, q + j, by go_num, by go_num, by go_num, hlt, by omega, by omega, HF.out, HS.out⟩, by simp [intOf]; omega⟩
      · obtain rfl : k = n := by omega
        have hd : ts.drop k = [] := List.drop_of_length_le (by rw [HO.out.2.2.2]; exact Nat.le_refl _)
        have hrr := HX.out.1.2.1 hd
        have hnp : 0 < k := by
          rw [← HO.out.2.2.2]
          exact List.length_pos_iff.2 HST.out.2
        have hla := HST.out.1.2.2 HST.out.2
        rw [List.getLast?_eq_getElem?, HO.out.2.2.2] at hla
        subst hrr
        obtain ⟨T, hT⟩ : ∃ T : Tk, T = ⟨false, s.data.toList.length, r', []⟩ := ⟨_, rfl⟩
        have hr := HO.out.2.1 (k - 1) _ hla
        rw [← hT] at hr
        have heq := eqlTk_same T
        have HF := Lib.hid (And.intro (show T.word = false by rw [hT]) (And.intro (show T.text = [] by rw [hT]) (And.intro (show Value.int .i64 (s.size : Int) = .int .i64 T.at_ by rw [hT, ← HL.out]) (show Value.int .i64 (r' : Int) = .int .i64 T.row by rw [hT]))))
        have K2 := Lib.hid (awake18 wr)
        clear hd hT hla
        go_wp2_with fail
        refine K2.out.mono ?_
        rintro e w2 ⟨rfl, hb2⟩
        replace hr := range_kept hr (HX.out.2.trans (hb2.mono HX.out.2.size)) (Nat.le_refl _)
        have HB := Lib.hid (HO.out.2.2.1.trans ((HX.out.2.trans (hb2.mono HX.out.2.size)).mono HO.out.2.2.1.size))
        clear hb2
        go_wp2_with (first
          | (refine wpList_wantd (by rfl) (wp_load_tk (.tmp 143) rfl (b := g) (f := (k - 1) * 4) rfl hr ?_))
          | (refine wpList_wantd (by rfl) (wp_build_line _ (.tmp 146) (.tmp 148) rfl T HF.out.1 HF.out.2.1 rfl HF.out.2.2.1 HF.out.2.2.2 ?_)))
        go_ret
        exact ⟨rfl, HB.out⟩
end Go.Proofs.Ytiggfoghogecjaa
