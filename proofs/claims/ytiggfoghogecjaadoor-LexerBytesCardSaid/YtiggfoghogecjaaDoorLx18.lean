/-
  Package lexer's Tokens: what it answers, of any text of 20,000 bytes at most, and of longer ones. No conditions.
-/
import Derived.Test.YtiggfoghogecjaaDoorCt18
namespace Go.Proofs.YtiggfoghogecjaaDoor
open Go.RowKit
set_option maxRecDepth 100000

/-- The error of a byte that may not be: a fault at that place. -/
def ErrAt (w : World) (v : Value) (p : Nat) : Prop := ∃ g, v = .iface 48 (.pointer (some ⟨g, 0, none⟩)) ∧ w.heap[g]? = some (.cells #[.int .i64 p, .iface 28 (.int .i64 21)] 54 (0, 0))
theorem ErrAt.later {w w' : World} {B : Nat} {v : Value} {p : Nat} (h : ErrAt w v p) (hb : Below B w w') (hB : w.heap.size ≤ B) : ErrAt w' v p := by
  obtain ⟨g, e, hg⟩ := h
  exact ⟨g, e, (hb.block g (Nat.lt_of_lt_of_le (Array.getElem?_eq_some_iff.1 hg).1 hB)).trans hg⟩
theorem wrap18 (at_ : Int) (T : TypeId) (x : Value) (w : World) : Calls Tryd.prog 14 #[.int .i64 at_, .iface T x] w fun e w' =>
    e = .returned (.iface 48 (.pointer (some ⟨w.heap.size, 0, none⟩))) ∧ w.alloc (.cells #[.int .i64 at_, .iface T x] 54) = w' := by
  go_enter Tryd.func14, Tryd.ntmps14
  go_wp2
  go_ret
  exact ⟨rfl, rfl⟩
/-- What is answered: a row of the call's own, or an error. -/
def TokR (b : Nat) (w' : World) : Sum Nat (List Tk) → Value → Prop
  | .inl p, v => ∃ e, v = .tuple #[.slice none 0 0, e] ∧ ErrAt w' e p
  | .inr ts, v => ∃ r, v = .tuple #[r, .nilIface] ∧ TkO w' b r ts
theorem sub18 {s : ByteArray} {k : Nat} : (s.extract k s.size).data.toList = s.data.toList.drop k := by
  rw [cut_piece, Lib.size_eq, List.take_of_length_le]
  rw [List.length_drop]
  omega
theorem sub18_size (s : ByteArray) (k : Nat) : (s.extract k s.size).size = s.size - k := by
  rw [Lib.size_eq, sub18, List.length_drop, ← Lib.size_eq]
theorem tokens_big (s : ByteArray) (hs : 20000 < s.size) (w : World) : Calls Tryd.prog 6 #[.string s] w fun e w' => e = .returned (.tuple #[.slice none 0 0, .iface 28 (.int .i64 4)]) ∧ w = w' := by
  go_enter Tryd.func6, Tryd.ntmps6
  go_wp2_with fail
  go_ret2
  exact ⟨rfl, rfl⟩
--<< tok
set_option maxHeartbeats 4000000 in
theorem tokens18 (s : ByteArray) (hs : s.size ≤ 20000) (w : World) : Calls Tryd.prog 6 #[.string s] w fun e w' => ∃ v, e = .returned v ∧ TokR w.heap.size w' (lexM .gap 0 1 s.data.toList) v ∧ Below w.heap.size w w' := by
  have HL := Lib.hid (Lib.size_eq s).symm
  obtain ⟨R, hR⟩ : ∃ R, lexM .gap 0 1 s.data.toList = R := ⟨_, rfl⟩
  rw [hR]
  have hR0 : R = joinR [] (lexM .gap 0 1 (s.data.toList.drop 0)) := by rw [joinR_nil, ← hR]; rfl
  have HR := Lib.hid hR0
  clear hR hR0
  go_enter Tryd.func6, Tryd.ntmps6
  go_wp2_with fail
  go_loopw [4, 5, 6] (fun v i r wr => ∃ (k row : Nat) (xs : List Tk), k ≤ s.size ∧ i = .int .i64 k ∧ r = .int .i64 row ∧ row ≤ k + 1 ∧ Hid (TkO wr w.heap.size v xs ∧ xs.length ≤ k ∧ R = joinR xs (lexM .gap k row (s.data.toList.drop k)) ∧ Below w.heap.size w wr)) (fun _ i _ _ => s.size - (intOf i).toNat)
  case atStart => exact ⟨0, 1, [], Nat.zero_le _, rfl, rfl, by omega, ⟨TkO.nil _ _, Nat.zero_le _, HR.out, Below.refl _ _⟩⟩
  case round =>
    obtain ⟨k, row, xs, hk, rfl, rfl, hrow, HX⟩ := hrel
    by_cases hlt : k < s.size
    · obtain ⟨x, hx, hsk⟩ := str_at (s := s) (i := k) hlt
      have hd := drop_at hx
      have hxl := x.toNat_lt
      have hne : ∀ c : UInt8, x ≠ c → ((x.toNat : Int) == (c.toNat : Int)) = false := fun c h => by
        rw [beq_eq_false_iff_ne]
        intro h2
        exact h (UInt8.toNat_inj.1 (by omega))
      have HN := Lib.hid hne
      have HD := Lib.hid (And.intro hx hd)
      clear hne hx hd
      by_cases h10 : x = 10
      · have e10 : ((x.toNat : Int) == 10) = true := by rw [h10]; rfl
        have hnx : R = joinR (xs ++ [⟨false, k, row, []⟩]) (lexM .gap (k + 1) (row + 1) (s.data.toList.drop (k + 1))) := by
          rw [HX.out.2.2.1, HD.out.2, h10, lexM_ten, joinR_joinR]
        obtain ⟨T, hT⟩ : ∃ T : Tk, T = ⟨false, k, row, []⟩ := ⟨_, rfl⟩
        rw [← hT] at hnx
        have HF := Lib.hid (And.intro hnx (And.intro (show T.word = false by rw [hT]) (And.intro (show T.text = [] by rw [hT]) (And.intro (show Value.int .i64 (k : Int) = .int .i64 T.at_ by rw [hT]) (show Value.int .i64 (row : Int) = .int .i64 T.row by rw [hT])))))
        clear hnx hT h10
        go_wp2_with (first
          | (refine wpList_build_line rfl _ (.tmp 28) (.tmp 29) rfl T HF.out.2.1 HF.out.2.2.1 rfl HF.out.2.2.2.1 HF.out.2.2.2.2 ?_)
          | (refine wpList_lit_tk rfl (.tmp 30) rfl T rfl ?_; have H5 := Lib.hid (And.intro (TkBox.new wr T) (And.intro (HX.out.1.later ((Below.refl _ _).alloc (Nat.le_refl _) (.cells (tkv T) 35))) (HX.out.2.2.2.trans ((Below.refl _ wr).alloc HX.out.2.2.2.size (.cells (tkv T) 35))))); generalize wr.alloc (.cells (tkv T) 35) = w5 at H5 ⊢)
          | (refine wpList_push_tk rfl (.tmp 27) (.tmp 31) rfl w.heap.size _ xs rfl H5.out.2.1 rfl H5.out.1 (by have := HX.out.2.1; omega) H5.out.2.2.size ?_; intro v6 w6 o6 g6 _; have H6 := Lib.hid (And.intro o6 (H5.out.2.2.grown g6 H5.out.2.2.size (fun x hx => (H5.out.2.1.lt hx).1))); clear o6 g6))
        refine ⟨⟨k + 1, row + 1, xs ++ [T], hlt, by go_num, by go_num, by omega, ⟨H6.out.1, by rw [List.length_append]; have := HX.out.2.1; simp; omega, HF.out.1, H6.out.2⟩⟩, by simp [intOf]; omega⟩
      have e10 : ((x.toNat : Int) == 10) = false := HN.out 10 h10
      by_cases hb : blankB x = true
      · have hnx : R = joinR xs (lexM .gap (k + 1) row (s.data.toList.drop (k + 1))) := by
          rw [HX.out.2.2.1, HD.out.2, lexM_blank hb]
        have HF := Lib.hid hnx
        clear hnx
        by_cases h9 : x = 9
        · have e9 : ((x.toNat : Int) == 9) = true := by rw [h9]; rfl
          clear h9 h10 hb
          go_wp2_with fail
          refine ⟨⟨k + 1, row, xs, hlt, by go_num, rfl, by omega, ⟨HX.out.1, by have := HX.out.2.1; omega, HF.out, HX.out.2.2.2⟩⟩, by simp [intOf]; omega⟩
        have e9 : ((x.toNat : Int) == 9) = false := HN.out 9 h9
        by_cases h13 : x = 13
        · have e13 : ((x.toNat : Int) == 13) = true := by rw [h13]; rfl
          clear h13 h9 h10 hb
          go_wp2_with fail
          refine ⟨⟨k + 1, row, xs, hlt, by go_num, rfl, by omega, ⟨HX.out.1, by have := HX.out.2.1; omega, HF.out, HX.out.2.2.2⟩⟩, by simp [intOf]; omega⟩
        have e13 : ((x.toNat : Int) == 13) = false := HN.out 13 h13
        have h32 : x = 32 := by
          unfold blankB at hb
          simp [h9, h13] at hb
          exact hb
        have e32 : ((x.toNat : Int) == 32) = true := by rw [h32]; rfl
        clear h32 h13 h9 h10 hb
        go_wp2_with fail
        refine ⟨⟨k + 1, row, xs, hlt, by go_num, rfl, by omega, ⟨HX.out.1, by have := HX.out.2.1; omega, HF.out, HX.out.2.2.2⟩⟩, by simp [intOf]; omega⟩
      have h9 : x ≠ 9 := fun h => hb (by rw [h]; rfl)
      have h13 : x ≠ 13 := fun h => hb (by rw [h]; rfl)
      have h32 : x ≠ 32 := fun h => hb (by rw [h]; rfl)
      have e9 : ((x.toNat : Int) == 9) = false := HN.out 9 h9
      have e13 : ((x.toNat : Int) == 13) = false := HN.out 13 h13
      have e32 : ((x.toNat : Int) == 32) = false := HN.out 32 h32
      by_cases h35 : x = 35
      · have e35 : ((x.toNat : Int) == 35) = true := by rw [h35]; rfl
        obtain ⟨a, r, n1, n2, n3⟩ := noteRun (s.data.toList.drop (k + 1))
        have hK := remark18 (s.extract k s.size) (by rw [sub18_size]; omega) wr
        have hlen : k + 1 + a.length ≤ s.size := by
          have := congrArg List.length n1
          rw [List.length_drop, List.length_append, HL.out] at this
          omega
        have hr : r = s.data.toList.drop (k + 1 + a.length) := by
          rw [← List.drop_drop, n1, List.drop_left]
        have hnx : R = joinR xs (lexM .gap (k + 1 + a.length) row (s.data.toList.drop (k + 1 + a.length))) := by
          rw [HX.out.2.2.1, HD.out.2, h35, n1, ← List.cons_append, lexM_pass a k row r n2 n3, ← hr]
        have hn : ∀ n : Nat, (∀ a r, (s.extract k s.size).data.toList = a ++ r → (∀ c ∈ a, c ≠ 10) → (∀ c, r.head? = some c → c = 10) → n = a.length) → n = a.length + 1 := fun n h => by
          have := h (35 :: a) r (by rw [sub18, HD.out.2, h35, n1]; rfl) (fun c hc => by
            rcases List.mem_cons.1 hc with rfl | hc
            · decide
            · exact n2 c hc) n3
          rw [this]
          rfl
        obtain ⟨m, hm⟩ : ∃ m, a.length = m := ⟨_, rfl⟩
        rw [hm] at hlen hnx hn
        have HF := Lib.hid (And.intro hnx hn)
        have K := Lib.hid hK
        clear hnx hn hK hm hr n1 n2 n3 h35 h32 h13 h9 h10 hb
        go_wp2_with fail
        refine K.out.mono ?_
        rintro e w' ⟨n, rfl, hn, hb⟩
        obtain rfl := HF.out.2 n hn
        have HB := Lib.hid hb
        clear hb hn
        go_wp2_with fail
        refine ⟨⟨k + 1 + m, row, xs, hlen, by go_num, rfl, by omega, ⟨HX.out.1.later HB.out, by have := HX.out.2.1; omega, HF.out.1, HX.out.2.2.2.trans (HB.out.mono HX.out.2.2.2.size)⟩⟩, by simp [intOf]; omega⟩
      have e35 : ((x.toNat : Int) == 35) = false := HN.out 35 h35
      have K := Lib.hid (word18 (s.extract k s.size) (by rw [sub18_size]; omega) wr)
      by_cases hw : wordB x = true
      · have HW := Lib.hid hw
        clear hw h35 h32 h13 h9 h10 hb
        go_wp2_with fail
        refine K.out.mono ?_
        rintro e w' ⟨n, rfl, n1, n2, n3, rfl⟩
        rw [sub18_size] at n1
        rw [sub18] at n2 n3
        have hpos : n ≠ 0 := by
          rintro rfl
          have := n3 x (by rw [List.getElem?_drop]; exact HD.out.1)
          rw [HW.out] at this
          cases this
        have hnx : R = joinR (xs ++ [⟨true, k, row, (s.data.toList.drop k).take n⟩]) (lexM .gap (k + n) row (s.data.toList.drop (k + n))) := by
          have hl : ((s.data.toList.drop k).take n).length = n := by
            rw [List.length_take, List.length_drop, HL.out]
            omega
          have h1 := lexM_whole (w := (s.data.toList.drop k).take n) (fun h => by rw [h] at hl; exact hpos hl.symm) (fun c hc => by
            obtain ⟨j, hj⟩ := List.mem_iff_getElem?.1 hc
            have hjl := (List.getElem?_eq_some_iff.1 hj).1
            rw [hl] at hjl
            rw [List.getElem?_take, if_pos hjl] at hj
            exact n2 j c hjl hj) k row ((s.data.toList.drop k).drop n) (fun c hc => n3 c (by rw [← List.head?_drop]; exact hc))
          rw [List.take_append_drop, hl, List.drop_drop] at h1
          rw [HX.out.2.2.1, h1, joinR_joinR]
        have htx : Value.string (s.extract k (k + n)) = .string (mkS ((s.data.toList.drop k).take n)) := by
          rw [← mkS_back (s.extract k (k + n)), cut_piece, Nat.add_sub_cancel_left]
        obtain ⟨T, hT⟩ : ∃ T : Tk, T = ⟨true, k, row, (s.data.toList.drop k).take n⟩ := ⟨_, rfl⟩
        rw [← hT] at hnx
        have HF := Lib.hid (And.intro hnx (And.intro (show T.word = true by rw [hT]) (And.intro (show Value.string (s.extract k (k + n)) = .string (mkS T.text) by rw [hT]; exact htx) (And.intro (show Value.int .i64 (k : Int) = .int .i64 T.at_ by rw [hT]) (show Value.int .i64 (row : Int) = .int .i64 T.row by rw [hT])))))
        have hn0 : ((n : Int) == 0) = false := by rw [beq_eq_false_iff_ne]; omega
        have g1 : k + n ≤ s.size := by omega
        have g2 : (k : Int) + n ≤ s.size := by omega
        have g3 : (0 : Int) ≤ (k : Int) := by omega
        have g4 : (k : Int) ≤ (k : Int) + n := by omega
        clear hnx hT htx n2 n3 n1
        go_wp2_with (first
          | (refine wpList_build_word rfl _ (.tmp 53) (.tmp 54) (.tmp 60) rfl T HF.out.2.1 rfl HF.out.2.2.2.1 HF.out.2.2.2.2 HF.out.2.2.1 ?_)
          | (refine wpList_lit_tk rfl (.tmp 61) rfl T rfl ?_; have H5 := Lib.hid (And.intro (TkBox.new wr T) (And.intro (HX.out.1.later ((Below.refl _ _).alloc (Nat.le_refl _) (.cells (tkv T) 35))) (HX.out.2.2.2.trans ((Below.refl _ wr).alloc HX.out.2.2.2.size (.cells (tkv T) 35))))); generalize wr.alloc (.cells (tkv T) 35) = w5 at H5 ⊢)
          | (refine wpList_push_tk rfl (.tmp 52) (.tmp 62) rfl w.heap.size _ xs rfl H5.out.2.1 rfl H5.out.1 (by have := HX.out.2.1; omega) H5.out.2.2.size ?_; intro v6 w6 o6 g6 _; have H6 := Lib.hid (And.intro o6 (H5.out.2.2.grown g6 H5.out.2.2.size (fun x hx => (H5.out.2.1.lt hx).1))); clear o6 g6))
        refine ⟨⟨k + n, row, xs ++ [T], g1, by go_num, rfl, by omega, ⟨H6.out.1, by rw [List.length_append]; have := HX.out.2.1; simp; omega, HF.out.1, H6.out.2⟩⟩, by simp [intOf]; omega⟩
      · have hno : R = .inl k := by
          rw [HX.out.2.2.1, HD.out.2, lexM_no]
          · rfl
          · unfold fineB
            rw [Bool.eq_false_iff.2 hb, Bool.eq_false_iff.2 hw]
            simp [h35, h10]
        have HW := Lib.hid (And.intro hno (Bool.eq_false_iff.2 hw))
        have K2 := Lib.hid (wrap18 (k : Int) 28 (.int .i64 21) wr)
        clear hno hw h35 h32 h13 h9 h10 hb
        go_wp2_with fail
        refine K.out.mono ?_
        rintro e w' ⟨n, rfl, n1, n2, n3, rfl⟩
        have hn0 : n = 0 := by
          rcases Nat.eq_zero_or_pos n with h | h
          · exact h
          · have := n2 0 x h (by rw [sub18, List.getElem?_drop]; exact HD.out.1)
            rw [HW.out.2] at this
            cases this
        subst hn0
        clear n1 n2 n3
        go_wp2_with fail
        refine K2.out.mono ?_
        rintro e w' ⟨rfl, hw'⟩
        have HB := Lib.hid hw'
        clear hw'
        go_wp2_with fail
        go_ret2
        have hbb : Below w.heap.size w w' := by rw [← HB.out]; exact HX.out.2.2.2.trans ((Below.refl _ wr).alloc HX.out.2.2.2.size _)
        rw [HW.out.1]
        exact ⟨_, rfl, ⟨_, rfl, _, rfl, by rw [← HB.out]; exact heap_alloc_last wr _⟩, hbb⟩
    · obtain rfl : k = s.size := by omega
      have hnx : R = .inr (xs ++ [⟨false, s.size, row, []⟩]) := by
        rw [HX.out.2.2.1, List.drop_of_length_le (by rw [HL.out]; exact Nat.le_refl _), lexM_end]
        rfl
      obtain ⟨T, hT⟩ : ∃ T : Tk, T = ⟨false, s.size, row, []⟩ := ⟨_, rfl⟩
      rw [← hT] at hnx
      have HF := Lib.hid (And.intro hnx (And.intro (show T.word = false by rw [hT]) (And.intro (show T.text = [] by rw [hT]) (And.intro (show Value.int .i64 (s.size : Int) = .int .i64 T.at_ by rw [hT]) (show Value.int .i64 (row : Int) = .int .i64 T.row by rw [hT])))))
      clear hnx hT
      go_wp2_with (first
        | (refine wpList_build_line rfl _ (.tmp 68) (.tmp 69) rfl T HF.out.2.1 HF.out.2.2.1 rfl HF.out.2.2.2.1 HF.out.2.2.2.2 ?_)
        | (refine wpList_lit_tk rfl (.tmp 70) rfl T rfl ?_; have H5 := Lib.hid (And.intro (TkBox.new wr T) (And.intro (HX.out.1.later ((Below.refl _ _).alloc (Nat.le_refl _) (.cells (tkv T) 35))) (HX.out.2.2.2.trans ((Below.refl _ wr).alloc HX.out.2.2.2.size (.cells (tkv T) 35))))); generalize wr.alloc (.cells (tkv T) 35) = w5 at H5 ⊢)
        | (refine wpList_push_tk rfl (.tmp 67) (.tmp 71) rfl w.heap.size _ xs rfl H5.out.2.1 rfl H5.out.1 (by have := HX.out.2.1; omega) H5.out.2.2.size ?_; intro v6 w6 o6 g6 _; have H6 := Lib.hid (And.intro o6 (H5.out.2.2.grown g6 H5.out.2.2.size (fun x hx => (H5.out.2.1.lt hx).1))); clear o6 g6))
      go_ret2
      rw [HF.out.1]
      exact ⟨_, rfl, ⟨_, rfl, H6.out.1⟩, H6.out.2⟩
-->>
end Go.Proofs.YtiggfoghogecjaaDoor
