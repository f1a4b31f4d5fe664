/-
  stockadehelp.Plain of tokens: two rows that read alike are told so; texts put together. No conditions.
-/
import Derived.Test.YtiggfoghogecjaaDoorAw18
import Derived.IntWalk
namespace Go.Proofs.YtiggfoghogecjaaDoor
open Go.RowKit
set_option maxRecDepth 100000

theorem mkS_cat (a b : List UInt8) : mkS a ++ mkS b = mkS (a ++ b) := by
  apply ByteArray.ext
  simp [mkS]
theorem ext_at {s : ByteArray} {j : Nat} {x : UInt8} (h : s.data.toList[j]? = some x) : s.extract j (j + 1) = mkS [x] := by
  rw [← mkS_back (s.extract j (j + 1)), cut_piece, drop_at h, Nat.add_sub_cancel_left]
  rfl
theorem neqTk_same (x : Tk) (w : World) : (binOp .neq 35 (.agg (tkv x)) (.agg (tkv x))).run Tryd.prog w = .ok (.bool false) w := by
  have h := eqlTk_same x w
  rw [run_eql_struct] at h
  rw [run_neq_struct]
  cases hr : (Op.equalIn 10000 35 (.agg (tkv x)) (.agg (tkv x))).run Tryd.prog w with
  | ok b w' =>
    rw [hr] at h
    simp only [Result.andThen_ok] at h ⊢
    cases h
    rfl
  | _ => rw [hr] at h; cases h
/-- Two fields of a box turned. -/
theorem TkBox.put {w : World} {g : Nat} {t : Tk} (h : TkBox w g t) (p r : Nat) : TkBox ((w.setCell ⟨g, 1, none⟩ (.int .i64 p)).setCell ⟨g, 2, none⟩ (.int .i64 r)) g ⟨t.word, p, r, t.text⟩ := by
  unfold TkBox at h ⊢
  simp [World.setCell, Array.getElem?_modify, h, tkv, Tk.kind]
theorem plainTk (q : Tk) (w : World) : Calls Tryd.prog 17 #[.agg (tkv q), .agg (tkv q)] w fun e w' => e = .returned (.bool true) ∧ Below w.heap.size w w' := by
  have a1 := TkBox.new w q
  have b1 : Below w.heap.size w (w.alloc (.cells (tkv q) 35)) := (Below.refl _ _).alloc (Nat.le_refl _) _
  have a2 := TkBox.new (w.alloc (.cells (tkv q) 35)) q
  rw [World.size_alloc] at a2
  have b2 : Below (w.heap.size + 1) (w.alloc (.cells (tkv q) 35)) ((w.alloc (.cells (tkv q) 35)).alloc (.cells (tkv q) 35)) := (Below.refl _ _).alloc (by simp) _
  have hA := And.intro (a1.later b2 (by simp)) (And.intro a2 (b1.trans (b2.mono (by omega))))
  obtain ⟨W, hW⟩ : ∃ W, (w.alloc (.cells (tkv q) 35)).alloc (.cells (tkv q) 35) = W := ⟨_, rfl⟩
  rw [hW] at hA
  have HA := Lib.hid hA
  have HW := Lib.hid hW
  have heq := eqlTk_same q
  clear a1 a2 b1 b2 hA hW
  --<< c
  go_enter Tryd.func17, Tryd.ntmps17
  go_wp2_with (first
    | (rw [HW.out]; refine wpList_load_tk rfl (.tmp 2) rfl rfl HA.out.1.range ?_)
    | (refine wpList_load_tk rfl (.tmp 3) rfl rfl HA.out.2.1.range ?_))
  go_ret
  exact ⟨rfl, HA.out.2.2⟩
  -->>
set_option maxHeartbeats 2000000 in
theorem same_tk {A B : Option Addr} {n c m d : Nat} {xs : List Tk} {w : World} (ha : TkS w A n c xs) (hb : TkS w B m d xs) : Calls Tryd.prog 16 #[.slice A n c, .slice B m d, .func (.func 17) #[] #[]] w fun e w' => e = .returned (.bool true) ∧ Below w.heap.size w w' := by
  obtain rfl : m = n := hb.len.symm.trans ha.len
  have hmax := Nat.le_trans ha.cap ha.max
  unfold maxLen at hmax
  have hl := ha.len
  have HA := Lib.hid (And.intro ha hb)
  clear ha hb
  --<< b
  go_enter Tryd.func16, Tryd.ntmps16
  go_wp2_with fail
  go_loopw [7] (fun i wr => ∃ k : Nat, k ≤ m ∧ i = .int .i64 k ∧ Below w.heap.size w wr) (fun i _ => m - (intOf i).toNat)
  case atStart => exact ⟨0, Nat.zero_le _, rfl, Below.refl _ _⟩
  case round =>
    obtain ⟨k, hk, rfl, hbe⟩ := hrel
    by_cases hlt : k < m
    · obtain ⟨x, hx⟩ : ∃ x, xs[k]? = some x := ⟨xs[k]'(by omega), List.getElem?_eq_getElem _⟩
      obtain ⟨b, off, hA1, hr1⟩ := (HA.out.1.later hbe (Nat.le_refl _)).here k x hx
      obtain ⟨b', off', hA2, hr2⟩ := (HA.out.2.later hbe (Nat.le_refl _)).here k x hx
      subst hA1 hA2
      obtain ⟨X1, hX1⟩ : ∃ X, tkv x = X := ⟨_, rfl⟩
      obtain ⟨X2, hX2⟩ : ∃ X, tkv x = X := ⟨_, rfl⟩
      have HX1 := Lib.hid hX1
      have HX2 := Lib.hid hX2
      have hs1 : (Tryd.prog.info? 35).map (·.size) = some X1.size := by rw [← hX1]; exact tk_size x
      have hs2 : (Tryd.prog.info? 35).map (·.size) = some X2.size := by rw [← hX2]; exact tk_size x
      rw [hX1] at hr1
      rw [hX2] at hr2
      have HR := Lib.hid (And.intro hr1 hr2)
      have HD := Lib.hid hbe
      have HS := Lib.hid (And.intro hs1 hs2)
      clear hbe hx hr1 hr2 hX1 hX2 hs1 hs2
      have g0 : (0 : Int) ≤ (k : Int) := by omega
      have g1 : (k : Int) < (m : Int) := by omega
      go_wp2_with fail
      have hS : Below wr.heap.size wr wr.drew := (Below.refl _ _).drew
      refine rg_begin (fun w' => Below wr.heap.size wr w') 11 (by kernel_rfl) rfl ?_
      refine rg_take 0 (v := ?rv1) rfl (by kernel_rfl) (by kernel_rfl) (by kernel_rfl) (fun _ _ _ h => h) (by rfl) hS (fun w2 hw2 => ?ry1) ?rr1
      case ry1 => ((try dsimp only at hw2); go_simp <;> with_reducible rfl)
      simp only [Act.put, List.setIfInBounds_toArray, List.set_cons_zero, List.set_cons_succ]
      refine rg_take 1 (v := ?rv2) rfl (by kernel_rfl) (by kernel_rfl) (by kernel_rfl) (fun _ _ _ h => h) (by rfl) hS (fun w2 hw2 => ?ry2) ?rr2
      case ry2 => ((try dsimp only at hw2); go_simp <;> with_reducible rfl)
      simp only [Act.put, List.setIfInBounds_toArray, List.set_cons_zero, List.set_cons_succ]
      refine rg_take 2 (v := ?rv3) rfl (by kernel_rfl) (by kernel_rfl) (by kernel_rfl) (fun _ _ _ h => h) (by rfl) hS (fun w2 hw2 => ?ry3) ?rr3
      case ry3 => ((try dsimp only at hw2); go_simp <;> with_reducible rfl)
      simp only [Act.put, List.setIfInBounds_toArray, List.set_cons_zero, List.set_cons_succ]
      refine rg_take 5 (v := ?rv4) rfl (by kernel_rfl) (by kernel_rfl) (by kernel_rfl) (fun _ _ _ h => h) (by rfl) hS (fun w2 hw2 => ?ry4) ?rr4
      case ry4 => ((try dsimp only at hw2); go_simp <;> with_reducible rfl)
      simp only [Act.put, List.setIfInBounds_toArray, List.set_cons_zero, List.set_cons_succ]
      refine rg_take 6 (v := ?rv5) rfl (by kernel_rfl) (by kernel_rfl) (by kernel_rfl) (fun _ _ _ h => h) (by rfl) hS (fun w2 hw2 => ?ry5) ?rr5
      case ry5 => ((try dsimp only at hw2); go_simp <;> with_reducible rfl)
      simp only [Act.put, List.setIfInBounds_toArray, List.set_cons_zero, List.set_cons_succ]
      refine rg_take 3 (v := ?rv6) rfl (by kernel_rfl) (by kernel_rfl) (by kernel_rfl) (fun _ _ _ h => h) (by rfl) hS (fun w2 hw2 => ?ry6) ?rr6
      case ry6 => ((try dsimp only at hw2); go_simp <;> with_reducible rfl)
      simp only [Act.put, List.setIfInBounds_toArray, List.set_cons_zero, List.set_cons_succ]
      refine rg_take 7 (v := ?rv7) rfl (by kernel_rfl) (by kernel_rfl) (by kernel_rfl) (fun _ _ _ h => h) (by rfl) hS (fun w2 hw2 => ?ry7) ?rr7
      case ry7 => ((try dsimp only at hw2); go_simp <;> with_reducible rfl)
      simp only [Act.put, List.setIfInBounds_toArray, List.set_cons_zero, List.set_cons_succ]
      refine rg_load 4 rfl (by kernel_rfl) (by kernel_rfl) (by kernel_rfl) (b) (off + k * 4) (X1) (fun _ _ _ h => h) (by rfl) 35 (.tmp 22) rfl rfl hS (fun w2 h2 => range_kept HR.out.1 h2 (Nat.le_refl _)) Tryd.underlying35 rfl (HS.out.1) ?_
      simp only [Act.put, List.setIfInBounds_toArray, List.set_cons_zero, List.set_cons_succ]
      refine rg_load 8 rfl (by kernel_rfl) (by kernel_rfl) (by kernel_rfl) (b') (off' + k * 4) (X2) (fun _ _ _ h => h) (by rfl) 35 (.tmp 26) rfl rfl hS (fun w2 h2 => range_kept HR.out.2 h2 (Nat.le_refl _)) Tryd.underlying35 rfl (HS.out.2) ?_
      simp only [Act.put, List.setIfInBounds_toArray, List.set_cons_zero, List.set_cons_succ]
      refine rg_step 9 rfl (by kernel_rfl) (by rfl) (fun K hK => ?_)
      go_simp
      rw [← HX1.out, ← HX2.out]
      refine (plainTk x _).mono ?_
      rintro e w' ⟨rfl, bk⟩
      replace hS := hS.trans (bk.mono hS.size)
      clear bk
      refine hK.out _ _ hS ?_
      clear hK K
      try simp only [Act.put, List.setIfInBounds_toArray, List.set_cons_zero, List.set_cons_succ]
      refine rg_take 10 (v := ?rv8) rfl (by kernel_rfl) (by kernel_rfl) (by kernel_rfl) (fun _ _ _ h => h) (by rfl) hS (fun w2 hw2 => ?ry8) ?rr8
      case ry8 => ((try dsimp only at hw2); go_simp <;> with_reducible rfl)
      simp only [Act.put, List.setIfInBounds_toArray, List.set_cons_zero, List.set_cons_succ]
      refine rg_done (by kernel_rfl) ?_
      have H2 := Lib.hid (HD.out.trans (Below.mono hS HD.out.size))
      clear hS
      go_wp2_with fail
      exact ⟨⟨k + 1, hlt, by go_num, H2.out⟩, by simp [intOf]; omega⟩
    · have H2 := Lib.hid hbe
      clear hbe
      go_wp2_with fail
      go_ret
      exact ⟨rfl, H2.out⟩
  -->>
theorem plain_tk {A B : Option Addr} {n c m d : Nat} {xs : List Tk} {w : World} (ha : TkS w A n c xs) (hb : TkS w B m d xs) : Calls Tryd.prog 8 #[.slice A n c, .slice B m d] w fun e w' => e = .returned (.bool true) ∧ Below w.heap.size w w' := by
  have H := Lib.hid (same_tk ha hb)
  clear ha hb
  --<< d
  go_enter Tryd.func8, Tryd.ntmps8
  go_wp2_with fail
  refine H.out.mono ?_
  rintro e w' ⟨rfl, b⟩
  have HB := Lib.hid b
  clear b
  go_wp2_with fail
  go_ret
  exact ⟨rfl, HB.out⟩
  -->>
end Go.Proofs.YtiggfoghogecjaaDoor
