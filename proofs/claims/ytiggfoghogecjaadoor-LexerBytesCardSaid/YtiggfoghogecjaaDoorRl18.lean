/-
  stockaderef18's word and Tokens: what the document answers. Conditions: the text's length.
-/
import Derived.Test.YtiggfoghogecjaaDoorAw18
import Derived.Test.YtiggfoghogecjaaDoorFl12
import Derived.Test.YtiggfoghogecjaaDoorTell
namespace Go.Proofs.YtiggfoghogecjaaDoor
open Go.RowKit
set_option maxRecDepth 100000

theorem results_tmp_fl18 {fn : Func} {p u : Tmp} (h : fn.results = #[.tmp p, .cell u 30]) (tmps : Array Value) {w : World} {k : Nat} {fc fa : Int} {fp : Bool} (hu : tmps.getD u undef = .pointer (some ⟨k, 0, none⟩)) (hF : FlBox w k fc fa fp) :
    (results fn tmps).run Tryd.prog w = .ok (.tuple #[tmps.getD p undef, .agg (flv fc fa fp)]) w := by
  have e : (results fn tmps).run Tryd.prog w = ((asAddr (tmps.getD u undef)).run Tryd.prog w).andThen fun b w₃ => ((loadVar 30 b).run Tryd.prog w₃).andThen fun y w₄ => .ok (.tuple #[tmps.getD p undef, y]) w₄ := by
    simp only [results, h]
    simp [Sem.run_bind, Result.andThen]
  rw [e, hu]
  simp [asAddr, run_loadVar_row w k 30 30 (flv fc fa fp) (0, 0) _ hF Tryd.underlying30 rfl (fl_size fc fa fp)]
theorem refWord18 (c : UInt8) (w : World) : Calls Tryd.prog 15 #[.int .u8 c.toNat] w fun e w' => e = .returned (.bool (wordB c)) ∧ w = w' := by
  have e35 : (c != 35) = decide ((c.toNat : Int) ≠ 35) := by
    rw [Bool.eq_iff_iff, bne_iff_ne, decide_eq_true_iff]
    constructor
    · intro h h2
      apply h
      apply UInt8.toNat_inj.1
      have : (35 : UInt8).toNat = 35 := rfl
      omega
    · rintro h rfl
      exact h rfl
  obtain ⟨bb, hbb⟩ : ∃ bb, wordB c = bb := ⟨_, rfl⟩
  have hw : bb = (decide (33 ≤ c.toNat) && decide (c.toNat ≤ 126) && decide ((c.toNat : Int) ≠ 35)) := by rw [← hbb, ← e35]; rfl
  rw [hbb]
  have HW := Lib.hid hw
  have hlt := c.toNat_lt
  clear hw hbb e35
  obtain ⟨x, hx⟩ : ∃ x, c.toNat = x := ⟨_, rfl⟩
  rw [hx] at HW hlt ⊢
  clear hx
  rcases (show x < 33 ∨ (33 ≤ x ∧ 126 < x) ∨ (33 ≤ x ∧ x ≤ 126 ∧ x = 35) ∨ (33 ≤ x ∧ x ≤ 126 ∧ x ≠ 35) by omega) with d1 | ⟨d1, d2⟩ | ⟨d1, d2, d3⟩ | ⟨d1, d2, d3⟩
  all_goals
    go_enter Tryd.func15, Tryd.ntmps15
    go_wp2_with fail
    go_ret
    refine ⟨?_, rfl⟩
    rw [HW.out]
    show Ending.returned (Value.bool _) = _
    congr 2
    rw [Bool.eq_iff_iff]
    simp
    omega
theorem own_far18 {w w' : World} {B g : Nat} {v : Value} {xs : List Tk} (h : TkO w B v xs) (hk : ∀ k, k ≠ g → w'.heap[k]? = w.heap[k]?) (hg : g < B) : TkO w' B v xs := by
  refine ⟨h.1, ?_⟩
  rcases h.2 with h2 | ⟨b, cap, cur, rfl, h3, h4, h5⟩
  · exact .inl h2
  · exact .inr ⟨b, cap, cur, rfl, h3, (hk b (by omega)).trans h4, h5⟩
/-- What is told: a row, or where a byte may not be. -/
def RefR (b : Nat) (w' : World) : Sum Nat (List Tk) → Value → Prop
  | .inl p, v => v = .tuple #[.slice none 0 0, .agg (flv 21 p true)]
  | .inr ts, v => ∃ r, v = .tuple #[r, .agg (flv 0 0 false)] ∧ TkO w' b r ts
set_option maxHeartbeats 8000000 in
theorem refTokens18 (s : ByteArray) (hs : s.size ≤ 20000) (w : World) : Calls Tryd.prog 7 #[.string s] w fun e w' => ∃ v b, e = .returned v ∧ RefR b w' (lexM .gap 0 1 s.data.toList) v ∧ Below w.heap.size w w' := by
  have HL := Lib.hid (Lib.size_eq s).symm
  obtain ⟨R, hR⟩ : ∃ R, lexM .gap 0 1 s.data.toList = R := ⟨_, rfl⟩
  rw [hR]
  have hR0 : R = joinR [] (lexM .gap 0 1 (s.data.toList.drop 0)) := by rw [joinR_nil, ← hR]; rfl
  have HR := Lib.hid hR0
  clear hR hR0
  go_enter Tryd.func7, Tryd.ntmps7
  go_wp2_with (refine wpList_alloc_fl rfl rfl ?_; intro w0 f0 b0 s0; have HF0 := Lib.hid (And.intro f0 (And.intro b0 s0)); clear f0 b0 s0)
  go_loopw [4, 5, 6] (fun v r i wr => ∃ (k row : Nat) (xs : List Tk), k ≤ s.size ∧ i = .int .i64 k ∧ r = .int .i64 row ∧ row ≤ k + 1 ∧ Hid (TkO wr w0.heap.size v xs ∧ xs.length ≤ k ∧ R = joinR xs (lexM .gap k row (s.data.toList.drop k)) ∧ Below w0.heap.size w0 wr)) (fun _ _ i _ => s.size - (intOf i).toNat)
  case atStart => exact ⟨0, 1, [], Nat.zero_le _, rfl, rfl, by omega, ⟨TkO.nil _ _, Nat.zero_le _, HR.out, Below.refl _ _⟩⟩
  case round =>
    obtain ⟨k, row, xs, hk, rfl, rfl, hrow, HX⟩ := hrel
    by_cases hlt : k < s.size
    · obtain ⟨x, hx, hsk⟩ := str_at (s := s) (i := k) hlt
      have hd := drop_at hx
      have hxl := x.toNat_lt
      have hne : ∀ c : UInt8, x ≠ c → ((x.toNat : Int) == (c.toNat : Int)) = false := fun c h => by
        rw [beq_eq_false_iff_ne]
        intro h2
        exact h (UInt8.toNat_inj.1 (by omega))
      have HN := Lib.hid hne
      have HD := Lib.hid (And.intro hx hd)
      clear hne hx hd
      by_cases hb : blankB x = true
      · have hnx : R = joinR xs (lexM .gap (k + 1) row (s.data.toList.drop (k + 1))) := by
          rw [HX.out.2.2.1, HD.out.2, lexM_blank hb]
        have HF := Lib.hid hnx
        clear hnx
        by_cases h9 : x = 9
        · have e9 : ((x.toNat : Int) == 9) = true := by rw [h9]; rfl
          clear h9 hb
          go_wp2_with fail
          refine ⟨⟨k + 1, row, xs, hlt, by go_num, rfl, by omega, ⟨HX.out.1, by have := HX.out.2.1; omega, HF.out, HX.out.2.2.2⟩⟩, by simp [intOf]; omega⟩
        have e9 : ((x.toNat : Int) == 9) = false := HN.out 9 h9
        by_cases h13 : x = 13
        · have e13 : ((x.toNat : Int) == 13) = true := by rw [h13]; rfl
          clear h13 h9 hb
          go_wp2_with fail
          refine ⟨⟨k + 1, row, xs, hlt, by go_num, rfl, by omega, ⟨HX.out.1, by have := HX.out.2.1; omega, HF.out, HX.out.2.2.2⟩⟩, by simp [intOf]; omega⟩
        have e13 : ((x.toNat : Int) == 13) = false := HN.out 13 h13
        have h32 : x = 32 := by
          unfold blankB at hb
          simp [h9, h13] at hb
          exact hb
        have e32 : ((x.toNat : Int) == 32) = true := by rw [h32]; rfl
        clear h32 h13 h9 hb
        go_wp2_with fail
        refine ⟨⟨k + 1, row, xs, hlt, by go_num, rfl, by omega, ⟨HX.out.1, by have := HX.out.2.1; omega, HF.out, HX.out.2.2.2⟩⟩, by simp [intOf]; omega⟩
      have h9 : x ≠ 9 := fun h => hb (by rw [h]; rfl)
      have h13 : x ≠ 13 := fun h => hb (by rw [h]; rfl)
      have h32 : x ≠ 32 := fun h => hb (by rw [h]; rfl)
      have e9 : ((x.toNat : Int) == 9) = false := HN.out 9 h9
      have e13 : ((x.toNat : Int) == 13) = false := HN.out 13 h13
      have e32 : ((x.toNat : Int) == 32) = false := HN.out 32 h32
      by_cases h35 : x = 35
      · have e35 : ((x.toNat : Int) == 35) = true := by rw [h35]; rfl
        obtain ⟨a, r, n1, n2, n3⟩ := noteRun (s.data.toList.drop (k + 1))
        have hlen : k + 1 + a.length + r.length = s.size := by
          have := congrArg List.length n1
          rw [List.length_drop, List.length_append, HL.out] at this
          omega
        have hr : r = s.data.toList.drop (k + 1 + a.length) := by
          rw [← List.drop_drop, n1, List.drop_left]
        have hnx : R = joinR xs (lexM .gap (k + 1 + a.length) row (s.data.toList.drop (k + 1 + a.length))) := by
          rw [HX.out.2.2.1, HD.out.2, h35, n1, ← List.cons_append, lexM_pass a k row r n2 n3, ← hr]
        have hin : ∀ (m : Nat) (y : UInt8), m < a.length → s.data.toList[k + 1 + m]? = some y → y ≠ 10 := fun m y hm hy => by
          have h1 : (s.data.toList.drop (k + 1))[m]? = some y := by rw [List.getElem?_drop]; exact hy
          rw [n1, List.getElem?_append_left hm] at h1
          exact n2 y (List.mem_of_getElem? h1)
        have hout : ∀ y : UInt8, s.data.toList[k + 1 + a.length]? = some y → y = 10 := fun y hy => by
          apply n3
          rw [hr, List.head?_drop]
          exact hy
        obtain ⟨al, hal⟩ : ∃ al, a.length = al := ⟨_, rfl⟩
        rw [hal] at hlen hnx hin hout
        have HF := Lib.hid (And.intro hnx (And.intro hin hout))
        have hle : k + 1 + al ≤ s.size := by omega
        clear hnx hin hout hal hr n1 n2 n3 h35 h32 h13 h9 hb hlen
        go_wp2_with fail
        go_loop [6] (fun i => ∃ m : Nat, m ≤ al ∧ i = .int .i64 ((k + m : Nat) : Int)) (fun i => s.size - (intOf i).toNat)
        case atStart => exact ⟨0, Nat.zero_le _, rfl⟩
        case round =>
          obtain ⟨m, hm, rfl⟩ := hrel
          by_cases hml : m < al
          · obtain ⟨y, hy, hsy⟩ := str_at (s := s) (i := k + m + 1) (by omega)
            have hy10 := HF.out.2.1 m y hml (by rw [← hy]; congr 1; omega)
            have e10 : ((y.toNat : Int) != 10) = true := by
              rw [bne_iff_ne]
              intro h
              apply hy10
              apply UInt8.toNat_inj.1
              show y.toNat = 10
              omega
            have g1 : k + m + 1 < s.size := by omega
            clear hy hy10
            go_wp2_with fail
            exact ⟨⟨m + 1, hml, by go_num⟩, by simp [intOf]; omega⟩
          · obtain rfl : m = al := by omega
            by_cases hl2 : k + m + 1 < s.size
            · obtain ⟨y, hy, hsy⟩ := str_at (s := s) (i := k + m + 1) hl2
              have hy10 := HF.out.2.2 y (by rw [← hy]; congr 1; omega)
              have e10 : ((y.toNat : Int) != 10) = false := by rw [hy10]; rfl
              clear hy hy10
              go_wp2_with fail
              exact ⟨⟨k + 1 + m, row, xs, hle, by go_num, rfl, by omega, ⟨HX.out.1, by have := HX.out.2.1; omega, HF.out.1, HX.out.2.2.2⟩⟩, by simp [intOf]; omega⟩
            · go_wp2_with fail
              exact ⟨⟨k + 1 + m, row, xs, hle, by go_num, rfl, by omega, ⟨HX.out.1, by have := HX.out.2.1; omega, HF.out.1, HX.out.2.2.2⟩⟩, by simp [intOf]; omega⟩
      have e35 : ((x.toNat : Int) == 35) = false := HN.out 35 h35
      by_cases h10 : x = 10
      · have e10 : ((x.toNat : Int) == 10) = true := by rw [h10]; rfl
        have hnx : R = joinR (xs ++ [⟨false, k, row, []⟩]) (lexM .gap (k + 1) (row + 1) (s.data.toList.drop (k + 1))) := by
          rw [HX.out.2.2.1, HD.out.2, h10, lexM_ten, joinR_joinR]
        obtain ⟨T, hT⟩ : ∃ T : Tk, T = ⟨false, k, row, []⟩ := ⟨_, rfl⟩
        rw [← hT] at hnx
        have HF := Lib.hid (And.intro hnx (And.intro (show T.word = false by rw [hT]) (And.intro (show T.text = [] by rw [hT]) (And.intro (show Value.int .i64 (k : Int) = .int .i64 T.at_ by rw [hT]) (show Value.int .i64 (row : Int) = .int .i64 T.row by rw [hT])))))
        clear hnx hT h10 h9 h13 h32 h35 hb
        go_wp2_with (first
            | (refine wpList_build_line rfl _ (.tmp 56) (.tmp 57) rfl T HF.out.2.1 HF.out.2.2.1 rfl HF.out.2.2.2.1 HF.out.2.2.2.2 ?_)
            | (refine wpList_lit_tk rfl (.tmp 58) rfl T rfl ?_; have H5 := Lib.hid (And.intro (TkBox.new wr T) (And.intro (HX.out.1.later ((Below.refl _ _).alloc (Nat.le_refl _) (.cells (tkv T) 35))) (HX.out.2.2.2.trans ((Below.refl _ wr).alloc HX.out.2.2.2.size (.cells (tkv T) 35))))); generalize wr.alloc (.cells (tkv T) 35) = w5 at H5 ⊢)
            | (refine wpList_push_tk rfl (.tmp 55) (.tmp 59) rfl w0.heap.size _ xs rfl H5.out.2.1 rfl H5.out.1 (by have := HX.out.2.1; omega) H5.out.2.2.size ?_; intro v6 w6 o6 g6 _; have H6 := Lib.hid (And.intro o6 (H5.out.2.2.grown g6 H5.out.2.2.size (fun x hx => (H5.out.2.1.lt hx).1))); clear o6 g6))
        refine ⟨⟨k + 1, row + 1, xs ++ [T], hlt, by go_num, by go_num, by omega, ⟨H6.out.1, by rw [List.length_append]; have := HX.out.2.1; simp; omega, HF.out.1, H6.out.2⟩⟩, by simp [intOf]; omega⟩
      have e10 : ((x.toNat : Int) == 10) = false := HN.out 10 h10
      have K := Lib.hid (refWord18 x wr)
      by_cases hw : wordB x = true
      · obtain ⟨wd, r, n1, n2, n3⟩ := wordRun (s.data.toList.drop k)
        have hlen : k + wd.length + r.length = s.size := by
          have := congrArg List.length n1
          rw [List.length_drop, List.length_append, HL.out] at this
          omega
        have hr : r = s.data.toList.drop (k + wd.length) := by
          rw [← List.drop_drop, n1, List.drop_left]
        have hwd : wd ≠ [] := by
          rintro rfl
          have := n3 x (by rw [← List.nil_append r, ← n1, List.head?_drop]; exact HD.out.1)
          rw [hw] at this
          cases this
        have hnx : R = joinR (xs ++ [⟨true, k, row, wd⟩]) (lexM .gap (k + wd.length) row (s.data.toList.drop (k + wd.length))) := by
          rw [HX.out.2.2.1, n1, lexM_whole hwd n2 _ _ _ n3, joinR_joinR, ← hr]
        have hin : ∀ (m : Nat) (y : UInt8), m < wd.length → s.data.toList[k + m]? = some y → wordB y = true := fun m y hm hy => by
          have h1 : (s.data.toList.drop k)[m]? = some y := by rw [List.getElem?_drop]; exact hy
          rw [n1, List.getElem?_append_left hm] at h1
          exact n2 y (List.mem_of_getElem? h1)
        have hout : ∀ y : UInt8, s.data.toList[k + wd.length]? = some y → wordB y = false := fun y hy => by
          apply n3
          rw [hr, List.head?_drop]
          exact hy
        have htx : Value.string (s.extract k (k + wd.length)) = .string (mkS wd) := by
          rw [← mkS_back (s.extract k (k + wd.length)), cut_piece, Nat.add_sub_cancel_left, n1, List.take_left]
        obtain ⟨T, hT⟩ : ∃ T : Tk, T = ⟨true, k, row, wd⟩ := ⟨_, rfl⟩
        rw [← hT] at hnx
        have hpos : 0 < wd.length := List.length_pos_iff.2 hwd
        have htx2 : wd = T.text := by rw [hT]
        rw [htx2] at htx
        have hlT : wd.length = T.text.length := by rw [hT]
        rw [hlT] at hnx hin hout hlen hpos
        obtain ⟨wl, hwl⟩ : ∃ wl, T.text.length = wl := ⟨_, rfl⟩
        rw [hwl] at hnx hin hout hlen hpos htx
        have HF := Lib.hid (And.intro hnx (And.intro (show T.word = true by rw [hT]) (And.intro (htx) (And.intro (show Value.int .i64 (k : Int) = .int .i64 T.at_ by rw [hT]) (show Value.int .i64 (row : Int) = .int .i64 T.row by rw [hT])))))
        have HI := Lib.hid (And.intro hin hout)
        have HW := Lib.hid hw
        have hle : k + wl ≤ s.size := by omega
        clear hnx hin hout hT htx htx2 hlT hwl hr hwd n1 n2 n3 hw h35 h32 h13 h9 h10 hb hlen
        go_wp2_with fail
        refine K.out.mono ?_
        rintro e w' ⟨rfl, rfl⟩
        rw [HW.out]
        go_wp2_with fail
        go_loop [8] (fun i => ∃ m : Nat, m ≤ wl ∧ i = .int .i64 ((k + m : Nat) : Int)) (fun i => s.size - (intOf i).toNat)
        case atStart => exact ⟨0, Nat.zero_le _, rfl⟩
        case round =>
          obtain ⟨m, hm, rfl⟩ := hrel
          by_cases hml : m < wl
          · obtain ⟨y, hy, hsy⟩ := str_at (s := s) (i := k + m) (by omega)
            have hyw := HI.out.1 m y hml hy
            have K3 := Lib.hid (refWord18 y wr)
            rw [hyw] at K3
            have g1 : k + m < s.size := by omega
            clear hy hyw
            go_wp2_with fail
            refine K3.out.mono ?_
            rintro e w' ⟨rfl, rfl⟩
            go_wp2_with fail
            go_round
            case rel => exact ⟨m + 1, hml, by go_num⟩
            case measure => simp [intOf]; omega
          · obtain rfl : m = wl := by omega
            have g2 : (k : Int) + m ≤ s.size := by omega
            have g3 : (0 : Int) ≤ (k : Int) := by omega
            have g4 : (k : Int) ≤ (k : Int) + m := by omega
            by_cases hl2 : k + m < s.size
            · obtain ⟨y, hy, hsy⟩ := str_at (s := s) (i := k + m) hl2
              have hyw := HI.out.2 y hy
              have K3 := Lib.hid (refWord18 y wr)
              rw [hyw] at K3
              clear hy hyw
              go_wp2_with fail
              refine K3.out.mono ?_
              rintro e w' ⟨rfl, rfl⟩
              go_wp2_with (first
                  | (refine wpList_build_word rfl _ (.tmp 80) (.tmp 81) (.tmp 85) rfl T HF.out.2.1 rfl HF.out.2.2.2.1 HF.out.2.2.2.2 HF.out.2.2.1 ?_)
                  | (refine wpList_lit_tk rfl (.tmp 86) rfl T rfl ?_; have H5 := Lib.hid (And.intro (TkBox.new wr T) (And.intro (HX.out.1.later ((Below.refl _ _).alloc (Nat.le_refl _) (.cells (tkv T) 35))) (HX.out.2.2.2.trans ((Below.refl _ wr).alloc HX.out.2.2.2.size (.cells (tkv T) 35))))); generalize wr.alloc (.cells (tkv T) 35) = w5 at H5 ⊢)
                  | (refine wpList_push_tk rfl (.tmp 79) (.tmp 87) rfl w0.heap.size _ xs rfl H5.out.2.1 rfl H5.out.1 (by have := HX.out.2.1; omega) H5.out.2.2.size ?_; intro v6 w6 o6 g6 _; have H6 := Lib.hid (And.intro o6 (H5.out.2.2.grown g6 H5.out.2.2.size (fun x hx => (H5.out.2.1.lt hx).1))); clear o6 g6))
              exact ⟨⟨k + m, row, xs ++ [T], hle, by go_num, rfl, by omega, ⟨H6.out.1, by rw [List.length_append]; have := HX.out.2.1; simp; omega, HF.out.1, H6.out.2⟩⟩, by simp [intOf]; omega⟩
            · go_wp2_with (first
                  | (refine wpList_build_word rfl _ (.tmp 80) (.tmp 81) (.tmp 85) rfl T HF.out.2.1 rfl HF.out.2.2.2.1 HF.out.2.2.2.2 HF.out.2.2.1 ?_)
                  | (refine wpList_lit_tk rfl (.tmp 86) rfl T rfl ?_; have H5 := Lib.hid (And.intro (TkBox.new wr T) (And.intro (HX.out.1.later ((Below.refl _ _).alloc (Nat.le_refl _) (.cells (tkv T) 35))) (HX.out.2.2.2.trans ((Below.refl _ wr).alloc HX.out.2.2.2.size (.cells (tkv T) 35))))); generalize wr.alloc (.cells (tkv T) 35) = w5 at H5 ⊢)
                  | (refine wpList_push_tk rfl (.tmp 79) (.tmp 87) rfl w0.heap.size _ xs rfl H5.out.2.1 rfl H5.out.1 (by have := HX.out.2.1; omega) H5.out.2.2.size ?_; intro v6 w6 o6 g6 _; have H6 := Lib.hid (And.intro o6 (H5.out.2.2.grown g6 H5.out.2.2.size (fun x hx => (H5.out.2.1.lt hx).1))); clear o6 g6))
              exact ⟨⟨k + m, row, xs ++ [T], hle, by go_num, rfl, by omega, ⟨H6.out.1, by rw [List.length_append]; have := HX.out.2.1; simp; omega, HF.out.1, H6.out.2⟩⟩, by simp [intOf]; omega⟩
      · have hno : R = .inl k := by
          rw [HX.out.2.2.1, HD.out.2, lexM_no]
          · rfl
          · unfold fineB
            rw [Bool.eq_false_iff.2 hb, Bool.eq_false_iff.2 hw]
            simp [h35, h10]
        have hbx := HF0.out.1.later HX.out.2.2.2 (Nat.le_refl _)
        have HW := Lib.hid (And.intro hno (And.intro (Bool.eq_false_iff.2 hw) hbx))
        have K2 := Lib.hid (fun w => help_at 21 (k : Int) w)
        clear hno hw hbx h35 h32 h13 h9 h10 hb
        go_wp2_with fail
        refine K.out.mono ?_
        rintro e w' ⟨rfl, rfl⟩
        rw [HW.out.2.1]
        go_wp2_with fail
        refine (K2.out _).mono ?_
        rintro e w' ⟨rfl, hw'⟩
        have HB := Lib.hid (And.intro hw' (HW.out.2.2.later hw' (Nat.le_refl _)))
        clear hw'
        go_wp2_with (refine wpList_store_fl rfl (.tmp 3) (.tmp 23) rfl 21 (k : Int) true rfl rfl HB.out.2 ?_; intro w8 f8 _ _ t8; have H8 := Lib.hid (And.intro f8 (t8 _ _ (Nat.le_refl _) (HF0.out.2.1.trans ((HX.out.2.2.2.trans (HB.out.1.mono HX.out.2.2.2.size)).mono HF0.out.2.1.size)))); clear f8 t8)
        refine bodyPost_ret (results_tmp_fl18 rfl _ rfl H8.out.1) rfl ?_
        refine ⟨_, 0, rfl, ?_, H8.out.2⟩
        rw [HW.out.1]
        rfl
    · obtain rfl : k = s.size := by omega
      have hnx : R = .inr (xs ++ [⟨false, s.size, row, []⟩]) := by
        rw [HX.out.2.2.1, List.drop_of_length_le (by rw [HL.out]; exact Nat.le_refl _), lexM_end]
        rfl
      obtain ⟨T, hT⟩ : ∃ T : Tk, T = ⟨false, s.size, row, []⟩ := ⟨_, rfl⟩
      rw [← hT] at hnx
      have HF := Lib.hid (And.intro hnx (And.intro (show T.word = false by rw [hT]) (And.intro (show T.text = [] by rw [hT]) (And.intro (show Value.int .i64 (s.size : Int) = .int .i64 T.at_ by rw [hT]) (show Value.int .i64 (row : Int) = .int .i64 T.row by rw [hT])))))
      clear hnx hT
      have HFL := Lib.hid (HF0.out.1.later HX.out.2.2.2 (Nat.le_refl _))
      go_wp2_with (first
          | (refine wpList_build_line rfl _ (.tmp 93) (.tmp 94) rfl T HF.out.2.1 HF.out.2.2.1 rfl HF.out.2.2.2.1 HF.out.2.2.2.2 ?_)
          | (refine wpList_lit_tk rfl (.tmp 95) rfl T rfl ?_; have H5 := Lib.hid (And.intro (TkBox.new wr T) (And.intro (HX.out.1.later ((Below.refl _ _).alloc (Nat.le_refl _) (.cells (tkv T) 35))) (HX.out.2.2.2.trans ((Below.refl _ wr).alloc HX.out.2.2.2.size (.cells (tkv T) 35))))); generalize wr.alloc (.cells (tkv T) 35) = w5 at H5 ⊢)
          | (refine wpList_push_tk rfl (.tmp 91) (.tmp 96) rfl w0.heap.size _ xs rfl H5.out.2.1 rfl H5.out.1 (by have := HX.out.2.1; omega) H5.out.2.2.size ?_; intro v6 w6 o6 g6 _; have H6 := Lib.hid (And.intro o6 (H5.out.2.2.grown g6 H5.out.2.2.size (fun x hx => (H5.out.2.1.lt hx).1))); have H7 := HF0.out.1.later H6.out.2 (Nat.le_refl _); have hlt7 := HF0.out.1.lt; clear o6 g6)
          | (refine wpList_store_fl rfl (.tmp 3) (.tmp 98) rfl 0 0 false rfl rfl H7 ?_; intro w8 f8 k8 _ t8; have H8 := Lib.hid (And.intro f8 (And.intro (own_far18 H6.out.1 k8 hlt7) (t8 _ _ (Nat.le_refl _) (HF0.out.2.1.trans (H6.out.2.mono HF0.out.2.1.size))))); clear f8 k8 t8))
      refine bodyPost_ret (results_tmp_fl18 rfl _ rfl H8.out.1) rfl ?_
      refine ⟨_, rfl, ⟨w0.heap.size, ?_⟩, H8.out.2.2⟩
      rw [HF.out.1]
      exact ⟨_, rfl, H8.out.2.1⟩
end Go.Proofs.YtiggfoghogecjaaDoor
