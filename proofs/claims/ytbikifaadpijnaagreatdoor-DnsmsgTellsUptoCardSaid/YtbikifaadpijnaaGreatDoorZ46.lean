/-
  dnsmsg.Parse: the message that bytes are, or why they are none. Conditions: those of the slice; 2^47 bytes at most; errors.errorType holds the handle of the type error.
  dnsmsg.Write: a message as it is written, or why not. Conditions: those of the slices; 10^12 of each list at most, names of a million bytes at most; what the program's text has laid (internal/bytealg.MaxLen holds an int).
  stockadelaw14.awake answers true. Conditions: errors.errorType holds the handle of the type error; what the program's text has laid (internal/bytealg.MaxLen holds an int).
  stockadelaw14.few: whether a message is not too much. Conditions: those of the slices; so many records and letters at most.
  stockadehelp.Message: two messages that are the same are told so. Conditions: those of the slices.
-/
import Derived.Test.YtbikifaadpijnaaGreatDoorZ45
import Derived.Test.YtbikifaadpijnaaGreatDoorZ41
import Derived.IntWalk
import Derived.Test.YtbikifaadpijnaaGreatDoorZ42
namespace Go.Proofs.YtbikifaadpijnaaGreatDoor
open Go.RowKit
set_option maxRecDepth 100000

/-- What Parse hands back. -/
def ParseR (x : Ms × Fl) (w : World) (e : Ending) (w' : World) : Prop := ∃ sq sa su se v, e = .returned (.tuple #[.agg (msv x.1.h sq sa su se), v]) ∧ QsS w.heap.size w' sq.A sq.n sq.c x.1.qs ∧ RcS w.heap.size w' sa.A sa.n sa.c x.1.an ∧ RcS w.heap.size w' su.A su.n su.c x.1.au ∧ RcS w.heap.size w' se.A se.n se.c x.1.ex ∧ Tells w' v x.2 ∧ Below w.heap.size w w'
theorem uK_at {l : List UInt8} {i : Nat} (h : i < 6) : uK l 6 i = (hdN l i : Int) := if_pos h
set_option maxHeartbeats 4000000 in
theorem parse_any {A : Option Addr} {n c : Nat} {l : List UInt8} {w : World} (hb : Bs w A n c l) (h47 : n ≤ 140737488350000) (hg : Handle w) : Calls Tryz.prog 8 #[.slice A n c] w (ParseR (parseM l n) w) := by
  have HB := Lib.hid (And.intro hb hg)
  have hlen := hb.len
  clear hb hg
  unfold parseM ParseR
  by_cases h4 : 4000 < n
  case pos =>
    --<< a
    rw [if_pos h4]
    have hd4 : decide ((4000 : Int) < (n : Int)) = true := decide_eq_true (by omega)
    go_enter Tryz.func8, Tryz.ntmps8
    go_wp2_with (first
      | (refine wpList_store_ms rfl (.tmp 2) (.tmp 11) rfl .zero .zero .zero .zero .zero rfl rfl H1.out.1 ?_; intro w2 a2 o2 z2 g2; have H2 := Lib.hid (And.intro a2 (g2 w.heap.size w (Nat.le_refl _) H1.out.2)); clear a2 o2 z2 g2)
      | (refine wpList_alloc_ms rfl rfl ?_; intro w1 a1 b1 z1; have H1 := Lib.hid (And.intro a1 b1); clear a1 b1 z1))
    exact bodyPost_ret (results_ms_tmp rfl _ rfl H2.out.1) rfl ⟨.zero, .zero, .zero, .zero, _, rfl, QsS.nil _ _, RcS.nil _ _, RcS.nil _ _, RcS.nil _ _, Tells.bare _ 4 (by decide) 0, H2.out.2⟩
    -->>
  rw [if_neg h4]
  have hd4 : decide ((4000 : Int) < (n : Int)) = false := decide_eq_false (by omega)
  have KH := Lib.hid (fun w1 (b : Below w.heap.size w w1) => headOf_any (HB.out.1.later b (Nat.le_refl _)) h47)
  by_cases h12 : n < 12
  case pos =>
    --<< b
    rw [if_pos h12]
    go_enter Tryz.func8, Tryz.ntmps8
    go_wp2_with (refine wpList_alloc_ms rfl rfl ?_; intro w1 a1 b1 z1; have H1 := Lib.hid (And.intro a1 b1); clear a1 b1 z1)
    refine (KH.out w1 H1.out.2).mono ?_
    rintro e w2 ⟨_, hh, b2⟩
    obtain ⟨T2, x2, rfl, t2⟩ := hh h12
    have H2 := Lib.hid (And.intro (H1.out.1.later b2 (Nat.le_refl _)) (And.intro t2 (H1.out.2.trans (b2.mono H1.out.2.size))))
    clear hh t2 b2
    go_wp2_with (first
      | (refine wpList_store_ms rfl (.tmp 2) (.tmp 20) rfl .zero .zero .zero .zero .zero rfl rfl H4.out.1 ?_; intro w5 a5 o5 z5 g5; have H5 := Lib.hid (And.intro a5 (And.intro (H4.out.2.1.farMs H4.out.1 o5) (g5 w.heap.size w (Nat.le_refl _) H4.out.2.2))); clear a5 o5 z5 g5)
      | (refine wpList_store_hd rfl (.tmp 4) (.tmp 16) rfl (fun _ => 0) rfl rfl H3.out.1 ?_; intro w4 a4 o4 z4 g4; have b4 := g4 _ _ (Nat.le_refl _) H3.out.2; have H4 := Lib.hid (And.intro (H2.out.1.later b4 (Nat.le_refl _)) (And.intro (H2.out.2.1.later b4 (Nat.le_refl _)) (H2.out.2.2.trans (b4.mono H2.out.2.2.size)))); clear a4 o4 z4 g4 b4)
      | (refine wpList_alloc_hd rfl rfl ?_; intro w3 a3 b3 z3; have H3 := Lib.hid (And.intro a3 b3); clear a3 b3 z3))
    exact bodyPost_ret (results_ms_tmp rfl _ rfl H5.out.1) rfl ⟨.zero, .zero, .zero, .zero, .iface T2 x2, rfl, QsS.nil _ _, RcS.nil _ _, RcS.nil _ _, RcS.nil _ _, H5.out.2⟩
    -->>
  rw [if_neg h12]
  have hsum : ∀ (x : Int), x = uK l 6 2 + uK l 6 3 + uK l 6 4 + uK l 6 5 → x = ((hdN l 2 + hdN l 3 + hdN l 4 + hdN l 5 : Nat) : Int) := fun x hx => by
    rw [hx, uK_at (by decide), uK_at (by decide), uK_at (by decide), uK_at (by decide)]
    omega
  have n2 := num2_lt l (2 * 2)
  have n3 := num2_lt l (2 * 3)
  have n4 := num2_lt l (2 * 4)
  have n5 := num2_lt l (2 * 5)
  obtain ⟨s, hs⟩ : ∃ s, hdN l 2 + hdN l 3 + hdN l 4 + hdN l 5 = s := ⟨_, rfl⟩
  have hsb : s < 1000000 := by unfold hdN at hs; omega
  rw [hs] at hsum ⊢
  have HSUM := Lib.hid (hsum _ rfl)
  have KT := Lib.hid (fun (g : Nat) (w1 : World) (H : HxBox w1 g (uK l 6)) => together_any H (fun i => by unfold uK; split <;> omega) (fun i => by
    have := num2_lt l (2 * i)
    unfold uK hdN
    split <;> omega))
  clear hs hsum n2 n3 n4 n5
  by_cases h64 : 64 < s
  case pos =>
    --<< c
    rw [if_pos h64]
    have hd64 : decide ((64 : Int) < (s : Int)) = true := decide_eq_true (by omega)
    go_enter Tryz.func8, Tryz.ntmps8
    go_wp2_with (refine wpList_alloc_ms rfl rfl ?_; intro w1 a1 b1 z1; have H1 := Lib.hid (And.intro a1 b1); clear a1 b1 z1)
    refine (KH.out w1 H1.out.2).mono ?_
    rintro e w2 ⟨hh, _, b2⟩
    obtain rfl := hh (by omega)
    have H2 := Lib.hid (And.intro (H1.out.1.later b2 (Nat.le_refl _)) (H1.out.2.trans (b2.mono H1.out.2.size)))
    clear hh b2
    go_wp2_with (first
      | (refine wpList_store_hd rfl (.tmp 4) (.tmp 16) rfl (uK l 6) rfl rfl H3.out.1 ?_; intro w4 a4 o4 z4 g4; have b4 := g4 _ _ (Nat.le_refl _) H3.out.2; have H4 := Lib.hid (And.intro (H2.out.1.later b4 (Nat.le_refl _)) (And.intro a4 (H2.out.2.trans (b4.mono H2.out.2.size)))); clear a4 o4 z4 g4 b4)
      | (refine wpList_alloc_hd rfl rfl ?_; intro w3 a3 b3 z3; have H3 := Lib.hid (And.intro a3 b3); clear a3 b3 z3))
    refine (KT.out _ _ H4.out.2.1).mono ?_
    rintro e w' ⟨rfl, rfl⟩
    rw [HSUM.out]
    go_wp2_with fail
    refine (wrap_told 4 (Tells.bare w4 4 (by decide) 0) (by decide)).mono ?_
    rintro e w5 ⟨v5, rfl, t5, b5⟩
    have H5 := Lib.hid (And.intro (H4.out.1.later b5 (Nat.le_refl _)) (And.intro t5 (H4.out.2.2.trans (b5.mono H4.out.2.2.size))))
    clear t5 b5
    go_wp2_with (refine wpList_store_ms rfl (.tmp 2) (.tmp 25) rfl .zero .zero .zero .zero .zero rfl rfl H5.out.1 ?_; intro w6 a6 o6 z6 g6; have H6 := Lib.hid (And.intro a6 (And.intro (H5.out.2.1.farMs H5.out.1 o6) (g6 w.heap.size w (Nat.le_refl _) H5.out.2.2))); clear a6 o6 z6 g6)
    exact bodyPost_ret (results_ms_tmp rfl _ rfl H6.out.1) rfl ⟨.zero, .zero, .zero, .zero, v5, rfl, QsS.nil _ _, RcS.nil _ _, RcS.nil _ _, RcS.nil _ _, H6.out.2⟩
    -->>
  rw [if_neg h64]
  have hd64 : decide ((64 : Int) < (s : Int)) = false := decide_eq_false (by omega)
  have KW := fun w1 (b : Below w.heap.size w w1) => whole_any (HB.out.1.later b (Nat.le_refl _)) h47 (uK l 6) (hdN l) (fun i hi => uK_at hi) (fun i => num2_lt l (2 * i)) (Handle.later b (Nat.le_refl _) HB.out.2)
  unfold WholeR at KW
  generalize wholeV l n (hdN l) = x at KW ⊢
  obtain ⟨m, nx, f⟩ := x
  dsimp only at KW
  have KW := Lib.hid KW
  have hnx : True := trivial
  unfold parseW
  dsimp only
  by_cases hf : f.code ≠ 0
  case pos =>
    --<< d
    rw [if_pos hf]
    go_enter Tryz.func8, Tryz.ntmps8
    go_wp2_with (refine wpList_alloc_ms rfl rfl ?_; intro w1 a1 b1 z1; have H1 := Lib.hid (And.intro a1 b1); clear a1 b1 z1)
    refine (KH.out w1 H1.out.2).mono ?_
    rintro e w2 ⟨hh, _, b2⟩
    obtain rfl := hh (by omega)
    have H2 := Lib.hid (And.intro (H1.out.1.later b2 (Nat.le_refl _)) (H1.out.2.trans (b2.mono H1.out.2.size)))
    clear hh b2
    go_wp2_with (first
      | (refine wpList_store_hd rfl (.tmp 4) (.tmp 16) rfl (uK l 6) rfl rfl H3.out.1 ?_; intro w4 a4 o4 z4 g4; have b4 := g4 _ _ (Nat.le_refl _) H3.out.2; have H4 := Lib.hid (And.intro (H2.out.1.later b4 (Nat.le_refl _)) (And.intro a4 (H2.out.2.trans (b4.mono H2.out.2.size)))); clear a4 o4 z4 g4 b4)
      | (refine wpList_alloc_hd rfl rfl ?_; intro w3 a3 b3 z3; have H3 := Lib.hid (And.intro a3 b3); clear a3 b3 z3))
    refine (KT.out _ _ H4.out.2.1).mono ?_
    rintro e w' ⟨rfl, rfl⟩
    rw [HSUM.out]
    go_wp2_with (refine wpList_load_hd rfl (.tmp 4) rfl rfl H4.out.2.1 ?_)
    refine (KW.out w4 H4.out.2.2).mono ?_
    rintro e w5 ⟨sq, sa, su, se, v5, rfl, _, _, _, _, t5, b5⟩
    obtain ⟨T5, x5, rfl⟩ := t5.held' hf
    have H5 := Lib.hid (And.intro (H4.out.1.later b5 (Nat.le_refl _)) (And.intro t5 (H4.out.2.2.trans (b5.mono H4.out.2.2.size))))
    clear t5 b5
    go_wp2_with (first
      | (refine wpList_store_ms rfl (.tmp 2) (.tmp 37) rfl .zero .zero .zero .zero .zero rfl rfl H7.out.1 ?_; intro w8 a8 o8 z8 g8; have H8 := Lib.hid (And.intro a8 (And.intro (H7.out.2.1.farMs H7.out.1 o8) (g8 w.heap.size w (Nat.le_refl _) H7.out.2.2))); clear a8 o8 z8 g8)
      | (refine wpList_store_ms rfl (.tmp 6) (.tmp 32) rfl m.h sq sa su se rfl rfl H6.out.1 ?_; intro w7 a7 o7 z7 g7; have b7 := g7 _ _ (Nat.le_refl _) H6.out.2; have H7 := Lib.hid (And.intro (H5.out.1.later b7 (Nat.le_refl _)) (And.intro (H5.out.2.1.later b7 (Nat.le_refl _)) (H5.out.2.2.trans (b7.mono H5.out.2.2.size)))); clear a7 o7 z7 g7 b7)
      | (refine wpList_alloc_ms rfl rfl ?_; intro w6 a6 b6 z6; have H6 := Lib.hid (And.intro a6 b6); clear a6 b6 z6))
    exact bodyPost_ret (results_ms_tmp rfl _ rfl H8.out.1) rfl ⟨.zero, .zero, .zero, .zero, .iface T5 x5, rfl, QsS.nil _ _, RcS.nil _ _, RcS.nil _ _, RcS.nil _ _, H8.out.2⟩
    -->>
  rw [if_neg hf]
  have hf0 : f.code = 0 := Decidable.not_not.1 hf
  clear hf
  by_cases hn : nx = n
  case neg =>
    --<< e
    rw [if_pos hn]
    have hn2 : ¬ (nx : Int) = (n : Int) := by omega
    go_enter Tryz.func8, Tryz.ntmps8
    go_wp2_with (refine wpList_alloc_ms rfl rfl ?_; intro w1 a1 b1 z1; have H1 := Lib.hid (And.intro a1 b1); clear a1 b1 z1)
    refine (KH.out w1 H1.out.2).mono ?_
    rintro e w2 ⟨hh, _, b2⟩
    obtain rfl := hh (by omega)
    have H2 := Lib.hid (And.intro (H1.out.1.later b2 (Nat.le_refl _)) (H1.out.2.trans (b2.mono H1.out.2.size)))
    clear hh b2
    go_wp2_with (first
      | (refine wpList_store_hd rfl (.tmp 4) (.tmp 16) rfl (uK l 6) rfl rfl H3.out.1 ?_; intro w4 a4 o4 z4 g4; have b4 := g4 _ _ (Nat.le_refl _) H3.out.2; have H4 := Lib.hid (And.intro (H2.out.1.later b4 (Nat.le_refl _)) (And.intro a4 (H2.out.2.trans (b4.mono H2.out.2.size)))); clear a4 o4 z4 g4 b4)
      | (refine wpList_alloc_hd rfl rfl ?_; intro w3 a3 b3 z3; have H3 := Lib.hid (And.intro a3 b3); clear a3 b3 z3))
    refine (KT.out _ _ H4.out.2.1).mono ?_
    rintro e w' ⟨rfl, rfl⟩
    rw [HSUM.out]
    go_wp2_with (refine wpList_load_hd rfl (.tmp 4) rfl rfl H4.out.2.1 ?_)
    refine (KW.out w4 H4.out.2.2).mono ?_
    rintro e w5 ⟨sq, sa, su, se, v5, rfl, _, _, _, _, t5, b5⟩
    obtain rfl := t5.none' hf0
    have H5 := Lib.hid (And.intro (H4.out.1.later b5 (Nat.le_refl _)) (H4.out.2.2.trans (b5.mono H4.out.2.2.size)))
    clear t5 b5
    go_wp2_with (first
      | (refine wpList_store_ms rfl (.tmp 6) (.tmp 32) rfl m.h sq sa su se rfl rfl H6.out.1 ?_; intro w7 a7 o7 z7 g7; have b7 := g7 _ _ (Nat.le_refl _) H6.out.2; have H7 := Lib.hid (And.intro (H5.out.1.later b7 (Nat.le_refl _)) (H5.out.2.trans (b7.mono H5.out.2.size))); clear a7 o7 z7 g7 b7)
      | (refine wpList_alloc_ms rfl rfl ?_; intro w6 a6 b6 z6; have H6 := Lib.hid (And.intro a6 b6); clear a6 b6 z6))
    refine (wrap_told (nx : Int) (Tells.bare w7 7 (by decide) 0) (by decide)).mono ?_
    rintro e w8 ⟨v8, rfl, t8, b8⟩
    have H8 := Lib.hid (And.intro (H7.out.1.later b8 (Nat.le_refl _)) (And.intro t8 (H7.out.2.trans (b8.mono H7.out.2.size))))
    clear t8 b8
    go_wp2_with (refine wpList_store_ms rfl (.tmp 2) (.tmp 43) rfl .zero .zero .zero .zero .zero rfl rfl H8.out.1 ?_; intro w9 a9 o9 z9 g9; have H9 := Lib.hid (And.intro a9 (And.intro (H8.out.2.1.farMs H8.out.1 o9) (g9 w.heap.size w (Nat.le_refl _) H8.out.2.2))); clear a9 o9 z9 g9)
    exact bodyPost_ret (results_ms_tmp rfl _ rfl H9.out.1) rfl ⟨.zero, .zero, .zero, .zero, v8, rfl, QsS.nil _ _, RcS.nil _ _, RcS.nil _ _, RcS.nil _ _, H9.out.2⟩
    -->>
  --<< f
  rw [if_neg (fun h => h hn)]
  subst hn
  go_enter Tryz.func8, Tryz.ntmps8
  go_wp2_with (refine wpList_alloc_ms rfl rfl ?_; intro w1 a1 b1 z1; have H1 := Lib.hid (And.intro a1 b1); have HL := Lib.hid a1.lt; clear a1 b1 z1)
  refine (KH.out w1 H1.out.2).mono ?_
  rintro e w2 ⟨hh, _, b2⟩
  obtain rfl := hh (by omega)
  have H2 := Lib.hid (And.intro (H1.out.1.later b2 (Nat.le_refl _)) (H1.out.2.trans (b2.mono H1.out.2.size)))
  clear hh b2
  go_wp2_with (first
    | (refine wpList_store_hd rfl (.tmp 4) (.tmp 16) rfl (uK l 6) rfl rfl H3.out.1 ?_; intro w4 a4 o4 z4 g4; have b4 := g4 _ _ (Nat.le_refl _) H3.out.2; have H4 := Lib.hid (And.intro (H2.out.1.later b4 (Nat.le_refl _)) (And.intro a4 (H2.out.2.trans (b4.mono H2.out.2.size)))); have HL4 := Lib.hid (MsBox.lt H4.out.1); clear a4 o4 z4 g4 b4)
    | (refine wpList_alloc_hd rfl rfl ?_; intro w3 a3 b3 z3; have H3 := Lib.hid (And.intro a3 b3); clear a3 b3 z3))
  refine (KT.out _ _ H4.out.2.1).mono ?_
  rintro e w' ⟨rfl, rfl⟩
  rw [HSUM.out]
  go_wp2_with (refine wpList_load_hd rfl (.tmp 4) rfl rfl H4.out.2.1 ?_)
  refine (KW.out w4 H4.out.2.2).mono ?_
  rintro e w5 ⟨sq, sa, su, se, v5, rfl, s1, s2, s3, s4, t5, b5⟩
  obtain rfl := t5.none' hf0
  have H5 := Lib.hid (And.intro (H4.out.1.later b5 (Nat.le_refl _)) (And.intro (And.intro s1 (And.intro s2 (And.intro s3 s4))) (H4.out.2.2.trans (b5.mono H4.out.2.2.size))))
  clear t5 b5 s1 s2 s3 s4
  go_wp2_with (first
    | (refine wpList_store_ms rfl (.tmp 2) (.tmp 47) rfl m.h sq sa su se rfl rfl H7.out.1 ?_; intro w8 a8 o8 z8 g8; have far : ∀ k, w4.heap.size ≤ k → w8.heap[k]? = w7.heap[k]? := (fun k hk => o8 k (Nat.ne_of_gt (Nat.lt_of_lt_of_le HL4.out hk))); have H8 := Lib.hid (And.intro a8 (And.intro (And.intro (H7.out.2.1.1.away far) (And.intro (H7.out.2.1.2.1.away far) (And.intro (H7.out.2.1.2.2.1.away far) (H7.out.2.1.2.2.2.away far)))) (g8 w.heap.size w (Nat.le_refl _) H7.out.2.2.1))); clear a8 o8 z8 g8 far)
    | (refine wpList_load_ms rfl (.tmp 6) rfl rfl H7.out.2.2.2 ?_)
    | (refine wpList_store_ms rfl (.tmp 6) (.tmp 32) rfl m.h sq sa su se rfl rfl H6.out.1 ?_; intro w7 a7 o7 z7 g7; have b7 := g7 _ _ (Nat.le_refl _) H6.out.2; have H7 := Lib.hid (And.intro (H5.out.1.later b7 (Nat.le_refl _)) (And.intro (And.intro (H5.out.2.1.1.later b7 (Nat.le_refl _)) (And.intro (H5.out.2.1.2.1.later b7 (Nat.le_refl _)) (And.intro (H5.out.2.1.2.2.1.later b7 (Nat.le_refl _)) (H5.out.2.1.2.2.2.later b7 (Nat.le_refl _))))) (And.intro (H5.out.2.2.trans (b7.mono H5.out.2.2.size)) a7))); clear a7 o7 z7 g7 b7)
    | (refine wpList_alloc_ms rfl rfl ?_; intro w6 a6 b6 z6; have H6 := Lib.hid (And.intro a6 b6); clear a6 b6 z6))
  have hw4 : w.heap.size ≤ w4.heap.size := H4.out.2.2.size
  exact bodyPost_ret (results_ms_tmp rfl _ rfl H8.out.1) rfl ⟨sq, sa, su, se, .nilIface, rfl, H8.out.2.1.1.low hw4, H8.out.2.1.2.1.low hw4, H8.out.2.1.2.2.1.low hw4, H8.out.2.1.2.2.2.low hw4, Tells.nil _ _ _, H8.out.2.2⟩
  -->>
end Go.Proofs.YtbikifaadpijnaaGreatDoor

namespace Go.Proofs.YtbikifaadpijnaaGreatDoor
open Go.RowKit
set_option maxRecDepth 100000

/-- A message in memory. -/
structure MsM (lo : Nat) (w : World) (sq sa su se : Sl) (m : Ms) : Prop where
  qs : QsS lo w sq.A sq.n sq.c m.qs
  an : RcS lo w sa.A sa.n sa.c m.an
  au : RcS lo w su.A su.n su.c m.au
  ex : RcS lo w se.A se.n se.c m.ex
theorem MsM.later {B lo : Nat} {w w' : World} {sq sa su se : Sl} {m : Ms} (h : MsM lo w sq sa su se m) (hb : Below B w w') (hB : w.heap.size ≤ B) : MsM lo w' sq sa su se m := ⟨h.qs.later hb hB, h.an.later hb hB, h.au.later hb hB, h.ex.later hb hB⟩
/-- How long its texts are, how great its numbers. -/
structure MsOk (m : Ms) : Prop where
  qs : ∀ q ∈ m.qs, q.name.length ≤ 1000000
  rs : ∀ r ∈ recs m, (r.name.length ≤ 1000000 ∧ r.target.length ≤ 1000000) ∧ (0 ≤ r.ttl ∧ r.ttl < 4294967296)
theorem pieces3 {w : World} {A1 A2 A3 : Option Addr} {n1 c1 n2 c2 n3 c3 : Nat} {l1 l2 l3 : List UInt8} (h1 : Bs w A1 n1 c1 l1) (h2 : Bs w A2 n2 c2 l2) (h3 : Bs w A3 n3 c3 l3) (T : TypeId) :
    Pieces (w.alloc (.cells #[.slice A1 n1 c1, .slice A2 n2 c2, .slice A3 n3 c3] T)) w.heap.size [⟨A1, n1, c1, l1⟩, ⟨A2, n2, c2, l2⟩, ⟨A3, n3, c3, l3⟩] := fun i p hp => by
  have b : Below w.heap.size w (w.alloc (.cells #[.slice A1 n1 c1, .slice A2 n2 c2, .slice A3 n3 c3] T)) := (Below.refl _ _).alloc (Nat.le_refl _) _
  match i, hp with
  | 0, hp => cases hp; exact ⟨by rw [World.cell?_alloc_at _ _ _ _ rfl]; rfl, h1.later b (Nat.le_refl _)⟩
  | 1, hp => cases hp; exact ⟨by rw [World.cell?_alloc_at _ _ _ _ rfl]; rfl, h2.later b (Nat.le_refl _)⟩
  | 2, hp => cases hp; exact ⟨by rw [World.cell?_alloc_at _ _ _ _ rfl]; rfl, h3.later b (Nat.le_refl _)⟩
theorem piecesR3 {w : World} {s1 s2 s3 : Sl} {l1 l2 l3 : List Rc} {d1 d2 d3 : List Sl} (h1 : RcK w s1.A s1.n s1.c l1 d1) (h2 : RcK w s2.A s2.n s2.c l2 d2) (h3 : RcK w s3.A s3.n s3.c l3 d3) (T : TypeId) :
    PiecesR (w.alloc (.cells #[.slice s1.A s1.n s1.c, .slice s2.A s2.n s2.c, .slice s3.A s3.n s3.c] T)) w.heap.size [⟨s1, l1, d1⟩, ⟨s2, l2, d2⟩, ⟨s3, l3, d3⟩] := fun i p hp => by
  have b : Below w.heap.size w (w.alloc (.cells #[.slice s1.A s1.n s1.c, .slice s2.A s2.n s2.c, .slice s3.A s3.n s3.c] T)) := (Below.refl _ _).alloc (Nat.le_refl _) _
  match i, hp with
  | 0, hp => cases hp; exact ⟨by rw [World.cell?_alloc_at _ _ _ _ rfl]; rfl, h1.later b (Nat.le_refl _)⟩
  | 1, hp => cases hp; exact ⟨by rw [World.cell?_alloc_at _ _ _ _ rfl]; rfl, h2.later b (Nat.le_refl _)⟩
  | 2, hp => cases hp; exact ⟨by rw [World.cell?_alloc_at _ _ _ _ rfl]; rfl, h3.later b (Nat.le_refl _)⟩
theorem bitsV_pos {h : Mh} (hr : rightH h) : 0 ≤ bitsV h := by
  obtain ⟨_, ⟨h1, _⟩, ⟨h3, _⟩, h5, _⟩ := hr
  unfold bitsV
  split <;> omega
theorem bitsV_le {h : Mh} (hr : rightH h) : bitsV h ≤ 65535 := by
  obtain ⟨_, ⟨_, h2⟩, ⟨_, h4⟩, _, h6⟩ := hr
  unfold bitsV
  split <;> omega
theorem hdU_pos {id b : Int} (h0 : 0 ≤ id) (h1 : 0 ≤ b) (q a u e : Nat) : ∀ i, 0 ≤ hdU id b q a u e i := fun i => by
  unfold hdU
  split <;> omega
theorem hdU_le {id b : Int} (h0 : id ≤ 65535) (h1 : b ≤ 65535) {q a u e : Nat} (hq : q ≤ 1000000000000) (ha : a ≤ 1000000000000) (hu : u ≤ 1000000000000) (he : e ≤ 1000000000000) : ∀ i, hdU id b q a u e i ≤ 1000000000000000000 := fun i => by
  unfold hdU
  split <;> omega
/-- What Write hands back. -/
def WriteR (l : List UInt8) (f : Fl) (w : World) (e : Ending) (w' : World) : Prop := ∃ A n c v, e = .returned (.tuple #[.slice A n c, v]) ∧ Bs w' A n c l ∧ Tells w' v f ∧ Below w.heap.size w w'
set_option maxHeartbeats 8000000 in
theorem writeM_any {lo : Nat} {sq sa su se : Sl} {m : Ms} {w : World} (hm : MsM lo w sq sa su se m) (hok : MsOk m) (hn : sq.n ≤ 1000000000000 ∧ sa.n ≤ 1000000000000 ∧ su.n ≤ 1000000000000 ∧ se.n ≤ 1000000000000) (hE : Env w) : Calls Tryz.prog 10 #[.agg (msv m.h sq sa su se)] w (WriteR (writeMv m) (writeMe m) w) := by
  have a1 := MsBox.new w m.h sq sa su se
  have b1 : Below w.heap.size w (w.alloc (.cells (msv m.h sq sa su se) 26)) := (Below.refl _ _).alloc (Nat.le_refl _) _
  obtain ⟨W, hW⟩ : ∃ W, w.alloc (.cells (msv m.h sq sa su se) 26) = W := ⟨_, rfl⟩
  rw [hW] at a1 b1
  have HW := Lib.hid hW
  have HA := Lib.hid (And.intro a1 b1)
  have HL1 := Lib.hid (MsBox.lt a1)
  have HM := Lib.hid (And.intro hm (And.intro hok hE))
  have hlq := hm.qs.len
  have hla := hm.an.len
  have hlu := hm.au.len
  have hle := hm.ex.len
  have KF := Lib.hid (fun w1 => headFor_any m.h sq sa su se w1)
  have KR := fun w1 => rightM_any m.h sq sa su se w1
  have hcount : countM m = sq.n + sa.n + su.n + se.n := by
    unfold countM recs
    rw [List.length_append, List.length_append]
    omega
  obtain ⟨Wv, hWv⟩ : ∃ Wv, writeMv m = Wv := ⟨_, rfl⟩
  obtain ⟨We, hWe⟩ : ∃ We, writeMe m = We := ⟨_, rfl⟩
  rw [hWv, hWe]
  have bad : ¬ rightM m → Wv = [] ∧ We = ⟨1, 0, false⟩ := fun h => by
    rw [← hWv, ← hWe]
    unfold writeMv writeMe
    rw [if_neg (fun e => h e.1), if_neg h]
    exact ⟨rfl, rfl⟩
  have HWv := Lib.hid hWv
  have HWe := Lib.hid hWe
  have HBAD := Lib.hid bad
  clear a1 b1 hW hm hok hE hWv hWe bad
  unfold WriteR
  by_cases hh : rightH m.h
  case neg =>
    --<< a
    obtain ⟨rfl, rfl⟩ := HBAD.out (fun h => hh h.1.1)
    go_enter Tryz.func10, Tryz.ntmps10
    go_wp2_with (first | (refine wpList_load_ms rfl (.tmp 1) rfl rfl HA.out.1 ?_) | (rw [HW.out]))
    refine (KF.out W).mono ?_
    rintro e w2 ⟨B, rfl, hB, b2⟩
    have H2 := Lib.hid (And.intro (HA.out.1.later b2 (Nat.le_refl _)) (HA.out.2.trans (b2.mono HA.out.2.size)))
    have HBV := Lib.hid hB
    clear b2 hB
    go_wp2_with (first
      | (refine wpList_load_ms rfl (.tmp 1) rfl rfl H4.out.1 ?_)
      | (refine wpList_store_hd rfl (.tmp 4) (.tmp 10) rfl (hdU m.h.id B sq.n sa.n su.n se.n) rfl rfl H3.out.1 ?_; intro w4 a4 o4 z4 g4; have b4 := g4 _ _ (Nat.le_refl _) H3.out.2; have H4 := Lib.hid (And.intro (H2.out.1.later b4 (Nat.le_refl _)) (And.intro a4 (H2.out.2.trans (b4.mono H2.out.2.size)))); clear a4 o4 z4 g4 b4)
      | (refine wpList_alloc_hd rfl rfl ?_; intro w3 a3 b3 z3; have H3 := Lib.hid (And.intro a3 b3); clear a3 b3 z3))
    refine (KR w4).mono ?_
    rintro e w5 ⟨rfl, b5⟩
    have H5 := Lib.hid (And.intro (H4.out.1.later b5 (Nat.le_refl _)) (And.intro (H4.out.2.1.later b5 (Nat.le_refl _)) (H4.out.2.2.trans (b5.mono H4.out.2.2.size))))
    clear b5
    rw [decide_eq_false hh]
    go_wp2_with fail
    go_ret2
    exact ⟨none, 0, 0, _, rfl, Bs.nil _, Tells.bare _ 1 (by decide) 0, H5.out.2.2⟩
    -->>
  have hid0 := hh.1.1
  have hid1 := hh.1.2
  obtain ⟨S, hS⟩ : ∃ S, sq.n + sa.n + su.n + se.n = S := ⟨_, rfl⟩
  rw [hS] at hcount
  have HSS := Lib.hid hS
  by_cases hs : 64 < S
  case pos =>
    --<< b
    obtain ⟨rfl, rfl⟩ := HBAD.out (fun h => by have := h.1.2; omega)
    have hsd : decide ((64 : Int) < (S : Int)) = true := decide_eq_true (by omega)
    clear hS
    go_enter Tryz.func10, Tryz.ntmps10
    go_wp2_with (first | (refine wpList_load_ms rfl (.tmp 1) rfl rfl HA.out.1 ?_) | (rw [HW.out]))
    refine (KF.out W).mono ?_
    rintro e w2 ⟨B, rfl, hB, b2⟩
    have H2 := Lib.hid (And.intro (HA.out.1.later b2 (Nat.le_refl _)) (HA.out.2.trans (b2.mono HA.out.2.size)))
    have HBV := Lib.hid hB
    clear b2 hB
    go_wp2_with (first
      | (refine wpList_load_ms rfl (.tmp 1) rfl rfl H4.out.1 ?_)
      | (refine wpList_store_hd rfl (.tmp 4) (.tmp 10) rfl (hdU m.h.id B sq.n sa.n su.n se.n) rfl rfl H3.out.1 ?_; intro w4 a4 o4 z4 g4; have b4 := g4 _ _ (Nat.le_refl _) H3.out.2; have H4 := Lib.hid (And.intro (H2.out.1.later b4 (Nat.le_refl _)) (And.intro a4 (H2.out.2.trans (b4.mono H2.out.2.size)))); clear a4 o4 z4 g4 b4)
      | (refine wpList_alloc_hd rfl rfl ?_; intro w3 a3 b3 z3; have H3 := Lib.hid (And.intro a3 b3); clear a3 b3 z3))
    refine (KR w4).mono ?_
    rintro e w5 ⟨rfl, b5⟩
    have H5 := Lib.hid (And.intro (H4.out.1.later b5 (Nat.le_refl _)) (And.intro (H4.out.2.1.later b5 (Nat.le_refl _)) (H4.out.2.2.trans (b5.mono H4.out.2.2.size))))
    clear b5
    rw [decide_eq_true hh]
    go_wp2_with fail
    refine (together_any H5.out.2.1 (hdU_pos hid0 (by rw [HBV.out hh]; exact bitsV_pos hh) sq.n sa.n su.n se.n) (hdU_le hid1 (by rw [HBV.out hh]; exact bitsV_le hh) hn.1 hn.2.1 hn.2.2.1 hn.2.2.2)).mono ?_
    rintro e w' ⟨rfl, rfl⟩
    rw [show hdU m.h.id B sq.n sa.n su.n se.n 2 + hdU m.h.id B sq.n sa.n su.n se.n 3 + hdU m.h.id B sq.n sa.n su.n se.n 4 + hdU m.h.id B sq.n sa.n su.n se.n 5 = ((sq.n + sa.n + su.n + se.n : Nat) : Int) by show (sq.n : Int) + sa.n + su.n + se.n = _; omega]
    rw [HSS.out]
    go_wp2_with fail
    go_ret2
    exact ⟨none, 0, 0, _, rfl, Bs.nil _, Tells.bare _ 1 (by decide) 0, H5.out.2.2⟩
    -->>
  have hsd : decide ((64 : Int) < (S : Int)) = false := decide_eq_false (by omega)
  have hb4 : sq.n ≤ 64 ∧ sa.n ≤ 64 ∧ su.n ≤ 64 ∧ se.n ≤ 64 := by omega
  clear hS
  have KQ := Lib.hid (fun w1 (b : Below w.heap.size w w1) => writtenQ_any (HM.out.1.qs.later b (Nat.le_refl _)) HM.out.2.1.qs (by omega) (Env.later HM.out.2.2 b (Nat.le_refl _)))
  by_cases hq : ∀ q ∈ m.qs, rightQ q
  case neg =>
    --<< c
    obtain ⟨rfl, rfl⟩ := HBAD.out (fun h => hq h.2.1)
    go_enter Tryz.func10, Tryz.ntmps10
    go_wp2_with (first | (refine wpList_load_ms rfl (.tmp 1) rfl rfl HA.out.1 ?_) | (rw [HW.out]))
    refine (KF.out W).mono ?_
    rintro e w2 ⟨B, rfl, hB, b2⟩
    have H2 := Lib.hid (And.intro (HA.out.1.later b2 (Nat.le_refl _)) (HA.out.2.trans (b2.mono HA.out.2.size)))
    have HBV := Lib.hid hB
    clear b2 hB
    go_wp2_with (first
      | (refine wpList_load_ms rfl (.tmp 1) rfl rfl H4.out.1 ?_)
      | (refine wpList_store_hd rfl (.tmp 4) (.tmp 10) rfl (hdU m.h.id B sq.n sa.n su.n se.n) rfl rfl H3.out.1 ?_; intro w4 a4 o4 z4 g4; have b4 := g4 _ _ (Nat.le_refl _) H3.out.2; have H4 := Lib.hid (And.intro (H2.out.1.later b4 (Nat.le_refl _)) (And.intro a4 (H2.out.2.trans (b4.mono H2.out.2.size)))); clear a4 o4 z4 g4 b4)
      | (refine wpList_alloc_hd rfl rfl ?_; intro w3 a3 b3 z3; have H3 := Lib.hid (And.intro a3 b3); clear a3 b3 z3))
    refine (KR w4).mono ?_
    rintro e w5 ⟨rfl, b5⟩
    have H5 := Lib.hid (And.intro (H4.out.1.later b5 (Nat.le_refl _)) (And.intro (H4.out.2.1.later b5 (Nat.le_refl _)) (H4.out.2.2.trans (b5.mono H4.out.2.2.size))))
    clear b5
    rw [decide_eq_true hh]
    go_wp2_with fail
    refine (together_any H5.out.2.1 (hdU_pos hid0 (by rw [HBV.out hh]; exact bitsV_pos hh) sq.n sa.n su.n se.n) (hdU_le hid1 (by rw [HBV.out hh]; exact bitsV_le hh) hn.1 hn.2.1 hn.2.2.1 hn.2.2.2)).mono ?_
    rintro e w' ⟨rfl, rfl⟩
    rw [show hdU m.h.id B sq.n sa.n su.n se.n 2 + hdU m.h.id B sq.n sa.n su.n se.n 3 + hdU m.h.id B sq.n sa.n su.n se.n 4 + hdU m.h.id B sq.n sa.n su.n se.n 5 = ((sq.n + sa.n + su.n + se.n : Nat) : Int) by show (sq.n : Int) + sa.n + su.n + se.n = _; omega]
    rw [HSS.out]
    have c5 : w5.cell? ⟨w.heap.size, 5, none⟩ = some (.slice sq.A sq.n sq.c) := H5.out.1.cell 5
    go_wp2_with fail
    refine (KQ.out _ H5.out.2.2).mono ?_
    rintro e w6 ⟨_, h6, b6⟩
    obtain rfl := h6 hq
    have H6 := Lib.hid (H5.out.2.2.trans (b6.mono H5.out.2.2.size))
    clear h6 b6 c5
    go_wp2_with fail
    go_ret2
    exact ⟨none, 0, 0, _, rfl, Bs.nil _, Tells.bare _ 1 (by decide) 0, H6.out⟩
    -->>
  obtain ⟨da, hKa⟩ := HM.out.1.an.known
  obtain ⟨du, hKu⟩ := HM.out.1.au.known
  obtain ⟨de, hKe⟩ := HM.out.1.ex.known
  have HK := Lib.hid (And.intro hKa (And.intro hKu hKe))
  clear hKa hKu hKe
  have hall : allR [⟨sa, m.an, da⟩, ⟨su, m.au, du⟩, ⟨se, m.ex, de⟩] = recs m := by simp [allR, recs]
  have htot : totR [⟨sa, m.an, da⟩, ⟨su, m.au, du⟩, ⟨se, m.ex, de⟩] ≤ 1000 := by simp [totR]; omega
  have hrl : (recs m).length ≤ 64 := by unfold countM at hcount; omega
  have KC := fun g w1 (hp : PiecesR w1 g [⟨sa, m.an, da⟩, ⟨su, m.au, du⟩, ⟨se, m.ex, de⟩]) => concatR_any g 3 3 _ w1 rfl (by omega) hp htot
  rw [hall] at KC
  have KC := Lib.hid KC
  have HRL := Lib.hid hrl
  have KX := Lib.hid (fun w1 A c (b : Below w.heap.size w w1) (hr : RcS 0 w1 A (recs m).length c (recs m)) => writtenR_any hr HM.out.2.1.rs (by omega) (Env.later HM.out.2.2 b (Nat.le_refl _)))
  clear hall htot
  by_cases hr : ∀ r ∈ recs m, rightR r
  case neg =>
    --<< d
    obtain ⟨rfl, rfl⟩ := HBAD.out (fun h => hr h.2.2)
    go_enter Tryz.func10, Tryz.ntmps10
    go_wp2_with (first | (refine wpList_load_ms rfl (.tmp 1) rfl rfl HA.out.1 ?_) | (rw [HW.out]))
    refine (KF.out W).mono ?_
    rintro e w2 ⟨B, rfl, hB, b2⟩
    have H2 := Lib.hid (And.intro (HA.out.1.later b2 (Nat.le_refl _)) (HA.out.2.trans (b2.mono HA.out.2.size)))
    have HBV := Lib.hid hB
    clear b2 hB
    go_wp2_with (first
      | (refine wpList_load_ms rfl (.tmp 1) rfl rfl H4.out.1 ?_)
      | (refine wpList_store_hd rfl (.tmp 4) (.tmp 10) rfl (hdU m.h.id B sq.n sa.n su.n se.n) rfl rfl H3.out.1 ?_; intro w4 a4 o4 z4 g4; have b4 := g4 _ _ (Nat.le_refl _) H3.out.2; have H4 := Lib.hid (And.intro (H2.out.1.later b4 (Nat.le_refl _)) (And.intro a4 (H2.out.2.trans (b4.mono H2.out.2.size)))); clear a4 o4 z4 g4 b4)
      | (refine wpList_alloc_hd rfl rfl ?_; intro w3 a3 b3 z3; have H3 := Lib.hid (And.intro a3 b3); clear a3 b3 z3))
    refine (KR w4).mono ?_
    rintro e w5 ⟨rfl, b5⟩
    have H5 := Lib.hid (And.intro (H4.out.1.later b5 (Nat.le_refl _)) (And.intro (H4.out.2.1.later b5 (Nat.le_refl _)) (H4.out.2.2.trans (b5.mono H4.out.2.2.size))))
    clear b5
    rw [decide_eq_true hh]
    go_wp2_with fail
    refine (together_any H5.out.2.1 (hdU_pos hid0 (by rw [HBV.out hh]; exact bitsV_pos hh) sq.n sa.n su.n se.n) (hdU_le hid1 (by rw [HBV.out hh]; exact bitsV_le hh) hn.1 hn.2.1 hn.2.2.1 hn.2.2.2)).mono ?_
    rintro e w' ⟨rfl, rfl⟩
    rw [show hdU m.h.id B sq.n sa.n su.n se.n 2 + hdU m.h.id B sq.n sa.n su.n se.n 3 + hdU m.h.id B sq.n sa.n su.n se.n 4 + hdU m.h.id B sq.n sa.n su.n se.n 5 = ((sq.n + sa.n + su.n + se.n : Nat) : Int) by show (sq.n : Int) + sa.n + su.n + se.n = _; omega]
    rw [HSS.out]
    have c5 : w5.cell? ⟨w.heap.size, 5, none⟩ = some (.slice sq.A sq.n sq.c) := H5.out.1.cell 5
    go_wp2_with fail
    refine (KQ.out _ H5.out.2.2).mono ?_
    rintro e w6 ⟨h6, _, b6⟩
    obtain ⟨A6, n6, c6, rfl, B6⟩ := h6 hq
    have H6 := Lib.hid (And.intro (H5.out.1.later b6 (Nat.le_refl _)) (And.intro (H5.out.2.1.later b6 (Nat.le_refl _)) (And.intro B6 (H5.out.2.2.trans (b6.mono H5.out.2.2.size)))))
    clear h6 b6 B6 c5
    have c6a : w6.cell? ⟨w.heap.size, 6, none⟩ = some (.slice sa.A sa.n sa.c) := H6.out.1.cell 6
    have c7a : w6.cell? ⟨w.heap.size, 7, none⟩ = some (.slice su.A su.n su.c) := H6.out.1.cell 7
    have c8a : w6.cell? ⟨w.heap.size, 8, none⟩ = some (.slice se.A se.n se.c) := H6.out.1.cell 8
    go_wp2_with fail
    have p7 := piecesR3 (HK.out.1.later H6.out.2.2.2 (Nat.le_refl _)) (HK.out.2.1.later H6.out.2.2.2 (Nat.le_refl _)) (HK.out.2.2.later H6.out.2.2.2 (Nat.le_refl _)) 24
    have b7 : Below w6.heap.size w6 (w6.alloc (.cells #[.slice sa.A sa.n sa.c, .slice su.A su.n su.c, .slice se.A se.n se.c] 24)) := (Below.refl _ _).alloc (Nat.le_refl _) _
    obtain ⟨w7, hw7⟩ : ∃ w7, w6.alloc (.cells #[.slice sa.A sa.n sa.c, .slice su.A su.n su.c, .slice se.A se.n se.c] 24) = w7 := ⟨_, rfl⟩
    rw [hw7] at p7 b7 ⊢
    have H7 := Lib.hid (And.intro (H6.out.2.1.later b7 (Nat.le_refl _)) (And.intro (H6.out.2.2.1.later b7 (Nat.le_refl _)) (And.intro p7 (H6.out.2.2.2.trans (b7.mono H6.out.2.2.2.size)))))
    clear p7 b7 hw7 c6a c7a c8a
    refine (KC.out _ _ H7.out.2.2.1).mono ?_
    rintro e w8 ⟨A8, c8, rfl, S8, b8⟩
    have H8 := Lib.hid (And.intro (H7.out.1.later b8 (Nat.le_refl _)) (And.intro (H7.out.2.1.later b8 (Nat.le_refl _)) (And.intro S8 (H7.out.2.2.2.trans (b8.mono H7.out.2.2.2.size)))))
    clear S8 b8
    go_wp2_with fail
    refine (KX.out _ _ _ H8.out.2.2.2 H8.out.2.2.1).mono ?_
    rintro e w9 ⟨_, h9, b9⟩
    obtain rfl := h9 hr
    have H9 := Lib.hid (H8.out.2.2.2.trans (b9.mono H8.out.2.2.2.size))
    clear h9 b9
    go_wp2_with fail
    go_ret2
    exact ⟨none, 0, 0, _, rfl, Bs.nil _, Tells.bare _ 1 (by decide) 0, H9.out⟩
    -->>
  have hR : rightM m := ⟨⟨hh, by omega⟩, hq, hr⟩
  have hqb := qsB_le hq
  have hrb := rsB_le hr (fun r h => by
    unfold recs at h
    rcases List.mem_append.1 h with h | h
    · exact HM.out.1.an.ok r h
    rcases List.mem_append.1 h with h | h
    · exact HM.out.1.au.ok r h
    · exact HM.out.1.ex.ok r h)
  have hml : (msgB m).length = 12 + ((qsB m.qs).length + (rsB (recs m)).length) := by
    unfold msgB headL
    simp only [List.length_append, putn_length]
  obtain ⟨nq, hnq⟩ : ∃ nq, (qsB m.qs).length = nq := ⟨_, rfl⟩
  obtain ⟨nr, hnr⟩ : ∃ nr, (rsB (recs m)).length = nr := ⟨_, rfl⟩
  rw [hnq] at hqb hml
  rw [hnr] at hrb hml
  have hqn : nq ≤ 20000 := by omega
  have hrn : nr ≤ 100000 := by omega
  have HNQ := Lib.hid hnq
  have HNR := Lib.hid hnr
  have HR := Lib.hid hR
  have HML := Lib.hid hml
  clear hqb hrb hnq hnr hR hml
  by_cases hbig : 4000 < 12 + (nq + nr)
  case pos =>
    --<< e
    have hv : Wv = [] := by rw [← HWv.out]; unfold writeMv; rw [if_neg (fun h => by have := h.2; rw [HML.out] at this; omega)]
    have he : We = ⟨4, 0, false⟩ := by rw [← HWe.out]; unfold writeMe; rw [if_pos HR.out, if_neg (by rw [HML.out]; omega)]
    subst hv he
    have hbd : ((12 : Int) + (nq + nr) : Int) > 4000 := by omega
    clear hbig
    go_enter Tryz.func10, Tryz.ntmps10
    go_wp2_with (first | (refine wpList_load_ms rfl (.tmp 1) rfl rfl HA.out.1 ?_) | (rw [HW.out]))
    refine (KF.out W).mono ?_
    rintro e w2 ⟨B, rfl, hB, b2⟩
    have H2 := Lib.hid (And.intro (HA.out.1.later b2 (Nat.le_refl _)) (HA.out.2.trans (b2.mono HA.out.2.size)))
    have HBV := Lib.hid hB
    clear b2 hB
    go_wp2_with (first
      | (refine wpList_load_ms rfl (.tmp 1) rfl rfl H4.out.1 ?_)
      | (refine wpList_store_hd rfl (.tmp 4) (.tmp 10) rfl (hdU m.h.id B sq.n sa.n su.n se.n) rfl rfl H3.out.1 ?_; intro w4 a4 o4 z4 g4; have b4 := g4 _ _ (Nat.le_refl _) H3.out.2; have H4 := Lib.hid (And.intro (H2.out.1.later b4 (Nat.le_refl _)) (And.intro a4 (H2.out.2.trans (b4.mono H2.out.2.size)))); clear a4 o4 z4 g4 b4)
      | (refine wpList_alloc_hd rfl rfl ?_; intro w3 a3 b3 z3; have H3 := Lib.hid (And.intro a3 b3); clear a3 b3 z3))
    refine (KR w4).mono ?_
    rintro e w5 ⟨rfl, b5⟩
    have H5 := Lib.hid (And.intro (H4.out.1.later b5 (Nat.le_refl _)) (And.intro (H4.out.2.1.later b5 (Nat.le_refl _)) (H4.out.2.2.trans (b5.mono H4.out.2.2.size))))
    clear b5
    rw [decide_eq_true hh]
    go_wp2_with fail
    refine (together_any H5.out.2.1 (hdU_pos hid0 (by rw [HBV.out hh]; exact bitsV_pos hh) sq.n sa.n su.n se.n) (hdU_le hid1 (by rw [HBV.out hh]; exact bitsV_le hh) hn.1 hn.2.1 hn.2.2.1 hn.2.2.2)).mono ?_
    rintro e w' ⟨rfl, rfl⟩
    rw [show hdU m.h.id B sq.n sa.n su.n se.n 2 + hdU m.h.id B sq.n sa.n su.n se.n 3 + hdU m.h.id B sq.n sa.n su.n se.n 4 + hdU m.h.id B sq.n sa.n su.n se.n 5 = ((sq.n + sa.n + su.n + se.n : Nat) : Int) by show (sq.n : Int) + sa.n + su.n + se.n = _; omega]
    rw [HSS.out]
    have c5 : w5.cell? ⟨w.heap.size, 5, none⟩ = some (.slice sq.A sq.n sq.c) := H5.out.1.cell 5
    go_wp2_with fail
    refine (KQ.out _ H5.out.2.2).mono ?_
    rintro e w6 ⟨h6, _, b6⟩
    obtain ⟨A6, n6, c6, rfl, B6⟩ := h6 hq
    have H6 := Lib.hid (And.intro (H5.out.1.later b6 (Nat.le_refl _)) (And.intro (H5.out.2.1.later b6 (Nat.le_refl _)) (And.intro B6 (H5.out.2.2.trans (b6.mono H5.out.2.2.size)))))
    clear h6 b6 B6 c5
    have c6a : w6.cell? ⟨w.heap.size, 6, none⟩ = some (.slice sa.A sa.n sa.c) := H6.out.1.cell 6
    have c7a : w6.cell? ⟨w.heap.size, 7, none⟩ = some (.slice su.A su.n su.c) := H6.out.1.cell 7
    have c8a : w6.cell? ⟨w.heap.size, 8, none⟩ = some (.slice se.A se.n se.c) := H6.out.1.cell 8
    go_wp2_with fail
    have p7 := piecesR3 (HK.out.1.later H6.out.2.2.2 (Nat.le_refl _)) (HK.out.2.1.later H6.out.2.2.2 (Nat.le_refl _)) (HK.out.2.2.later H6.out.2.2.2 (Nat.le_refl _)) 24
    have b7 : Below w6.heap.size w6 (w6.alloc (.cells #[.slice sa.A sa.n sa.c, .slice su.A su.n su.c, .slice se.A se.n se.c] 24)) := (Below.refl _ _).alloc (Nat.le_refl _) _
    obtain ⟨w7, hw7⟩ : ∃ w7, w6.alloc (.cells #[.slice sa.A sa.n sa.c, .slice su.A su.n su.c, .slice se.A se.n se.c] 24) = w7 := ⟨_, rfl⟩
    rw [hw7] at p7 b7 ⊢
    have H7 := Lib.hid (And.intro (H6.out.2.1.later b7 (Nat.le_refl _)) (And.intro (H6.out.2.2.1.later b7 (Nat.le_refl _)) (And.intro p7 (H6.out.2.2.2.trans (b7.mono H6.out.2.2.2.size)))))
    clear p7 b7 hw7 c6a c7a c8a
    refine (KC.out _ _ H7.out.2.2.1).mono ?_
    rintro e w8 ⟨A8, c8, rfl, S8, b8⟩
    have H8 := Lib.hid (And.intro (H7.out.1.later b8 (Nat.le_refl _)) (And.intro (H7.out.2.1.later b8 (Nat.le_refl _)) (And.intro S8 (H7.out.2.2.2.trans (b8.mono H7.out.2.2.2.size)))))
    clear S8 b8
    go_wp2_with fail
    refine (KX.out _ _ _ H8.out.2.2.2 H8.out.2.2.1).mono ?_
    rintro e w9 ⟨h9, _, b9⟩
    obtain ⟨A9, n9, c9, rfl, B9⟩ := h9 hr
    have hn6 : n6 = nq := H8.out.2.1.len.symm.trans HNQ.out
    have hn9 : n9 = nr := B9.len.symm.trans HNR.out
    subst hn6 hn9
    have H9 := Lib.hid (And.intro (H8.out.1.later b9 (Nat.le_refl _)) (And.intro (H8.out.2.1.later b9 (Nat.le_refl _)) (And.intro B9 (H8.out.2.2.2.trans (b9.mono H8.out.2.2.2.size)))))
    clear h9 b9 B9
    go_wp2_with (refine wpList_load_hd rfl (.tmp 4) rfl rfl H9.out.1 ?_)
    refine (headBytes_any _ _).mono ?_
    rintro e w10 ⟨A10, c10, rfl, B10, b10⟩
    have hbl : putn (hdU m.h.id B sq.n sa.n su.n se.n 0) 2 ++ (putn (hdU m.h.id B sq.n sa.n su.n se.n 1) 2 ++ (putn (hdU m.h.id B sq.n sa.n su.n se.n 2) 2 ++ (putn (hdU m.h.id B sq.n sa.n su.n se.n 3) 2 ++ (putn (hdU m.h.id B sq.n sa.n su.n se.n 4) 2 ++ putn (hdU m.h.id B sq.n sa.n su.n se.n 5) 2)))) = headL m := by
      unfold headL
      rw [hlq, hla, hlu, hle, ← HBV.out hh]
      rfl
    rw [hbl] at B10
    have H10 := Lib.hid (And.intro B10 (And.intro (H9.out.2.1.later b10 (Nat.le_refl _)) (And.intro (H9.out.2.2.1.later b10 (Nat.le_refl _)) (H9.out.2.2.2.trans (b10.mono H9.out.2.2.2.size)))))
    clear B10 b10 hbl
    go_wp2_with fail
    have p11 := pieces3 H10.out.1 H10.out.2.1 H10.out.2.2.1 22
    have b11 : Below w10.heap.size w10 (w10.alloc (.cells #[.slice A10 12 c10, .slice A6 n6 c6, .slice A9 n9 c9] 22)) := (Below.refl _ _).alloc (Nat.le_refl _) _
    obtain ⟨w11, hw11⟩ : ∃ w11, w10.alloc (.cells #[.slice A10 12 c10, .slice A6 n6 c6, .slice A9 n9 c9] 22) = w11 := ⟨_, rfl⟩
    rw [hw11] at p11 b11 ⊢
    have H11 := Lib.hid (And.intro p11 (H10.out.2.2.2.trans (b11.mono H10.out.2.2.2.size)))
    clear p11 b11 hw11
    refine (concat_any _ 3 3 _ w11 rfl (by omega) H11.out.1 (by simp [total]; omega)).mono ?_
    rintro e w12 ⟨v12, rfl, o12, b12⟩
    have hfl : flat [⟨A10, 12, c10, headL m⟩, ⟨A6, n6, c6, qsB m.qs⟩, ⟨A9, n9, c9, rsB (recs m)⟩] = msgB m := by simp [flat, msgB]
    have htl : total [⟨A10, 12, c10, headL m⟩, ⟨A6, n6, c6, qsB m.qs⟩, ⟨A9, n9, c9, rsB (recs m)⟩] = 12 + (n6 + n9) := by simp [total]
    rw [hfl, htl] at o12
    obtain ⟨A12, c12, rfl, B12⟩ := Bs.of_own o12
    have H12 := Lib.hid (And.intro B12 (H11.out.2.trans (b12.mono H11.out.2.size)))
    clear o12 b12 B12 hfl htl
    go_wp2_with fail
    go_ret2
    exact ⟨none, 0, 0, _, rfl, Bs.nil _, Tells.bare _ 4 (by decide) 0, H12.out.2⟩
    -->>
  --<< f
  have hv : Wv = msgB m := by rw [← HWv.out]; unfold writeMv; rw [if_pos ⟨HR.out, by rw [HML.out]; omega⟩]
  have he : We = fl0 := by rw [← HWe.out]; unfold writeMe; rw [if_pos HR.out, if_pos (by rw [HML.out]; omega)]
  subst hv he
  go_enter Tryz.func10, Tryz.ntmps10
  go_wp2_with (first | (refine wpList_load_ms rfl (.tmp 1) rfl rfl HA.out.1 ?_) | (rw [HW.out]))
  refine (KF.out W).mono ?_
  rintro e w2 ⟨B, rfl, hB, b2⟩
  have H2 := Lib.hid (And.intro (HA.out.1.later b2 (Nat.le_refl _)) (HA.out.2.trans (b2.mono HA.out.2.size)))
  have HBV := Lib.hid hB
  clear b2 hB
  go_wp2_with (first
    | (refine wpList_load_ms rfl (.tmp 1) rfl rfl H4.out.1 ?_)
    | (refine wpList_store_hd rfl (.tmp 4) (.tmp 10) rfl (hdU m.h.id B sq.n sa.n su.n se.n) rfl rfl H3.out.1 ?_; intro w4 a4 o4 z4 g4; have b4 := g4 _ _ (Nat.le_refl _) H3.out.2; have H4 := Lib.hid (And.intro (H2.out.1.later b4 (Nat.le_refl _)) (And.intro a4 (H2.out.2.trans (b4.mono H2.out.2.size)))); clear a4 o4 z4 g4 b4)
    | (refine wpList_alloc_hd rfl rfl ?_; intro w3 a3 b3 z3; have H3 := Lib.hid (And.intro a3 b3); clear a3 b3 z3))
  refine (KR w4).mono ?_
  rintro e w5 ⟨rfl, b5⟩
  have H5 := Lib.hid (And.intro (H4.out.1.later b5 (Nat.le_refl _)) (And.intro (H4.out.2.1.later b5 (Nat.le_refl _)) (H4.out.2.2.trans (b5.mono H4.out.2.2.size))))
  clear b5
  rw [decide_eq_true hh]
  go_wp2_with fail
  refine (together_any H5.out.2.1 (hdU_pos hid0 (by rw [HBV.out hh]; exact bitsV_pos hh) sq.n sa.n su.n se.n) (hdU_le hid1 (by rw [HBV.out hh]; exact bitsV_le hh) hn.1 hn.2.1 hn.2.2.1 hn.2.2.2)).mono ?_
  rintro e w' ⟨rfl, rfl⟩
  rw [show hdU m.h.id B sq.n sa.n su.n se.n 2 + hdU m.h.id B sq.n sa.n su.n se.n 3 + hdU m.h.id B sq.n sa.n su.n se.n 4 + hdU m.h.id B sq.n sa.n su.n se.n 5 = ((sq.n + sa.n + su.n + se.n : Nat) : Int) by show (sq.n : Int) + sa.n + su.n + se.n = _; omega]
  rw [HSS.out]
  have c5 : w5.cell? ⟨w.heap.size, 5, none⟩ = some (.slice sq.A sq.n sq.c) := H5.out.1.cell 5
  go_wp2_with fail
  refine (KQ.out _ H5.out.2.2).mono ?_
  rintro e w6 ⟨h6, _, b6⟩
  obtain ⟨A6, n6, c6, rfl, B6⟩ := h6 hq
  have H6 := Lib.hid (And.intro (H5.out.1.later b6 (Nat.le_refl _)) (And.intro (H5.out.2.1.later b6 (Nat.le_refl _)) (And.intro B6 (H5.out.2.2.trans (b6.mono H5.out.2.2.size)))))
  clear h6 b6 B6 c5
  have c6a : w6.cell? ⟨w.heap.size, 6, none⟩ = some (.slice sa.A sa.n sa.c) := H6.out.1.cell 6
  have c7a : w6.cell? ⟨w.heap.size, 7, none⟩ = some (.slice su.A su.n su.c) := H6.out.1.cell 7
  have c8a : w6.cell? ⟨w.heap.size, 8, none⟩ = some (.slice se.A se.n se.c) := H6.out.1.cell 8
  go_wp2_with fail
  have p7 := piecesR3 (HK.out.1.later H6.out.2.2.2 (Nat.le_refl _)) (HK.out.2.1.later H6.out.2.2.2 (Nat.le_refl _)) (HK.out.2.2.later H6.out.2.2.2 (Nat.le_refl _)) 24
  have b7 : Below w6.heap.size w6 (w6.alloc (.cells #[.slice sa.A sa.n sa.c, .slice su.A su.n su.c, .slice se.A se.n se.c] 24)) := (Below.refl _ _).alloc (Nat.le_refl _) _
  obtain ⟨w7, hw7⟩ : ∃ w7, w6.alloc (.cells #[.slice sa.A sa.n sa.c, .slice su.A su.n su.c, .slice se.A se.n se.c] 24) = w7 := ⟨_, rfl⟩
  rw [hw7] at p7 b7 ⊢
  have H7 := Lib.hid (And.intro (H6.out.2.1.later b7 (Nat.le_refl _)) (And.intro (H6.out.2.2.1.later b7 (Nat.le_refl _)) (And.intro p7 (H6.out.2.2.2.trans (b7.mono H6.out.2.2.2.size)))))
  clear p7 b7 hw7 c6a c7a c8a
  refine (KC.out _ _ H7.out.2.2.1).mono ?_
  rintro e w8 ⟨A8, c8, rfl, S8, b8⟩
  have H8 := Lib.hid (And.intro (H7.out.1.later b8 (Nat.le_refl _)) (And.intro (H7.out.2.1.later b8 (Nat.le_refl _)) (And.intro S8 (H7.out.2.2.2.trans (b8.mono H7.out.2.2.2.size)))))
  clear S8 b8
  go_wp2_with fail
  refine (KX.out _ _ _ H8.out.2.2.2 H8.out.2.2.1).mono ?_
  rintro e w9 ⟨h9, _, b9⟩
  obtain ⟨A9, n9, c9, rfl, B9⟩ := h9 hr
  have hn6 : n6 = nq := H8.out.2.1.len.symm.trans HNQ.out
  have hn9 : n9 = nr := B9.len.symm.trans HNR.out
  subst hn6 hn9
  have H9 := Lib.hid (And.intro (H8.out.1.later b9 (Nat.le_refl _)) (And.intro (H8.out.2.1.later b9 (Nat.le_refl _)) (And.intro B9 (H8.out.2.2.2.trans (b9.mono H8.out.2.2.2.size)))))
  clear h9 b9 B9
  go_wp2_with (refine wpList_load_hd rfl (.tmp 4) rfl rfl H9.out.1 ?_)
  refine (headBytes_any _ _).mono ?_
  rintro e w10 ⟨A10, c10, rfl, B10, b10⟩
  have hbl : putn (hdU m.h.id B sq.n sa.n su.n se.n 0) 2 ++ (putn (hdU m.h.id B sq.n sa.n su.n se.n 1) 2 ++ (putn (hdU m.h.id B sq.n sa.n su.n se.n 2) 2 ++ (putn (hdU m.h.id B sq.n sa.n su.n se.n 3) 2 ++ (putn (hdU m.h.id B sq.n sa.n su.n se.n 4) 2 ++ putn (hdU m.h.id B sq.n sa.n su.n se.n 5) 2)))) = headL m := by
    unfold headL
    rw [hlq, hla, hlu, hle, ← HBV.out hh]
    rfl
  rw [hbl] at B10
  have H10 := Lib.hid (And.intro B10 (And.intro (H9.out.2.1.later b10 (Nat.le_refl _)) (And.intro (H9.out.2.2.1.later b10 (Nat.le_refl _)) (H9.out.2.2.2.trans (b10.mono H9.out.2.2.2.size)))))
  clear B10 b10 hbl
  go_wp2_with fail
  have p11 := pieces3 H10.out.1 H10.out.2.1 H10.out.2.2.1 22
  have b11 : Below w10.heap.size w10 (w10.alloc (.cells #[.slice A10 12 c10, .slice A6 n6 c6, .slice A9 n9 c9] 22)) := (Below.refl _ _).alloc (Nat.le_refl _) _
  obtain ⟨w11, hw11⟩ : ∃ w11, w10.alloc (.cells #[.slice A10 12 c10, .slice A6 n6 c6, .slice A9 n9 c9] 22) = w11 := ⟨_, rfl⟩
  rw [hw11] at p11 b11 ⊢
  have H11 := Lib.hid (And.intro p11 (H10.out.2.2.2.trans (b11.mono H10.out.2.2.2.size)))
  clear p11 b11 hw11
  refine (concat_any _ 3 3 _ w11 rfl (by omega) H11.out.1 (by simp [total]; omega)).mono ?_
  rintro e w12 ⟨v12, rfl, o12, b12⟩
  have hfl : flat [⟨A10, 12, c10, headL m⟩, ⟨A6, n6, c6, qsB m.qs⟩, ⟨A9, n9, c9, rsB (recs m)⟩] = msgB m := by simp [flat, msgB]
  have htl : total [⟨A10, 12, c10, headL m⟩, ⟨A6, n6, c6, qsB m.qs⟩, ⟨A9, n9, c9, rsB (recs m)⟩] = 12 + (n6 + n9) := by simp [total]
  rw [hfl, htl] at o12
  obtain ⟨A12, c12, rfl, B12⟩ := Bs.of_own o12
  have H12 := Lib.hid (And.intro B12 (H11.out.2.trans (b12.mono H11.out.2.size)))
  clear o12 b12 B12 hfl htl
  go_wp2_with fail
  go_ret2
  exact ⟨A12, _, c12, _, rfl, H12.out.1, Tells.nil _ _ _, H12.out.2⟩
  -->>
end Go.Proofs.YtbikifaadpijnaaGreatDoor

namespace Go.Proofs.YtbikifaadpijnaaGreatDoor
open Go.RowKit
set_option maxRecDepth 100000

def m7 : Ms := ⟨⟨7, true, 0, 0, 0⟩, [], [], [], []⟩
def b7 : List UInt8 := [0, 7, 128, 0, 0, 0, 0, 0, 0, 0, 0, 0]
theorem m7_v : writeMv m7 = b7 := by decide +kernel
theorem m7_e : writeMe m7 = fl0 := by kernel_rfl
theorem b7_m : parseM b7 12 = (m7, fl0) := by kernel_rfl
theorem MsM.none_ {lo : Nat} (h : Mh) (w : World) : MsM lo w .zero .zero .zero .zero ⟨h, [], [], [], []⟩ := ⟨QsS.nil _ _, RcS.nil _ _, RcS.nil _ _, RcS.nil _ _⟩
theorem MsOk.none_ (h : Mh) : MsOk ⟨h, [], [], [], []⟩ := ⟨(fun q h => by cases h), fun r h => by simp [recs] at h⟩
set_option maxHeartbeats 4000000 in
theorem awake14 {w : World} (hE : Env w) (hg : Handle w) : Calls Tryz.prog 6 #[] w fun e w' => e = .returned (.bool true) ∧ Below w.heap.size w w' := by
  have KW := writeM_any (lo := 0) (w := w) (MsM.none_ ⟨7, true, 0, 0, 0⟩ w) (MsOk.none_ _) ⟨Nat.zero_le _, Nat.zero_le _, Nat.zero_le _, Nat.zero_le _⟩ hE
  have e1 : writeMv ⟨⟨7, true, 0, 0, 0⟩, [], [], [], []⟩ = b7 := m7_v
  have e2 : writeMe ⟨⟨7, true, 0, 0, 0⟩, [], [], [], []⟩ = fl0 := m7_e
  rw [e1, e2] at KW
  unfold WriteR at KW
  have KW := Lib.hid KW
  have HG := Lib.hid hg
  clear hE hg e1 e2
  --<< a
  go_enter Tryz.func6, Tryz.ntmps6
  go_wp2_with fail
  refine KW.out.mono ?_
  rintro e w1 ⟨A1, n1, c1, v1, rfl, B1, t1, b1⟩
  obtain rfl := t1.none' rfl
  have hn1 : n1 = 12 := B1.len.symm
  subst hn1
  have KP := parse_any B1 (by omega) (Handle.later b1 (Nat.le_refl _) HG.out)
  rw [b7_m] at KP
  unfold ParseR at KP
  have KP := Lib.hid KP
  have H1 := Lib.hid b1
  clear t1 b1 B1
  go_wp2_with fail
  refine KP.out.mono ?_
  rintro e w2 ⟨sq, sa, su, se, v2, rfl, _, _, _, _, t2, b2⟩
  obtain rfl := t2.none' rfl
  have H2 := Lib.hid (H1.out.trans (b2.mono H1.out.size))
  clear t2 b2
  go_wp2_with (first
    | (refine wpList_store_ms rfl (.tmp 3) (.tmp 13) rfl ⟨7, true, 0, 0, 0⟩ sq sa su se rfl rfl H3.out.1 ?_; intro w4 a4 o4 z4 g4; have b4 := g4 _ _ (Nat.le_refl _) H3.out.2; have H4 := Lib.hid (H2.out.trans (b4.mono H2.out.size)); (have x0 : w4.cell? ⟨w2.heap.size, 0, none⟩ = some (.int .i64 7) := a4.cell 0); (have x1 : w4.cell? ⟨w2.heap.size, 1, none⟩ = some (.bool true) := a4.cell 1); clear a4 o4 z4 g4 b4)
    | (refine wpList_alloc_ms rfl rfl ?_; intro w3 a3 b3 z3; have H3 := Lib.hid (And.intro a3 b3); clear a3 b3 z3))
  go_ret
  exact ⟨rfl, H4.out⟩
  -->>
end Go.Proofs.YtbikifaadpijnaaGreatDoor

namespace Go.Proofs.YtbikifaadpijnaaGreatDoor
open Go.RowKit
set_option maxRecDepth 100000

theorem rc_cells {w : World} {b o : Nat} {r : Rc} {B : Option Addr} {k m : Nat} (hk : r.ok) (h : w.rangeAt b o (rcv r B k m).toList) : w.cell? ⟨b, o, none⟩ = some (.string (mkS r.name)) ∧ w.cell? ⟨b, o + 21, none⟩ = some (.string (mkS r.target)) ∧ w.cell? ⟨b, o + 22, none⟩ = some (.slice B k m) := by
  obtain ⟨_, _, _, _, _, _, _, _, _, _, _, _, _, _, _, _, e1⟩ := ex16 hk
  exact ⟨h 0 _ (by rw [rcv_list, e1]; rfl), h 21 _ (by rw [rcv_list, e1]; rfl), h 22 _ (by rw [rcv_list, e1]; rfl)⟩
def sumR (xs : List Rc) : Nat := (xs.map fun r => r.name.length + r.target.length + r.data.length).sum
def sumQ (qs : List Qs) : Nat := (qs.map fun q => q.name.length).sum
def fewV (m : Ms) : Prop := sumR (recs m) + sumQ m.qs ≤ 8000 ∧ (recs m).length ≤ 100 ∧ m.qs.length ≤ 100
instance (m : Ms) : Decidable (fewV m) := by unfold fewV; infer_instance
theorem sumR_take {xs : List Rc} {j : Nat} {r : Rc} (h : xs[j]? = some r) : sumR (xs.take (j + 1)) = sumR (xs.take j) + (r.name.length + r.target.length + r.data.length) := by
  unfold sumR
  rw [List.take_add_one, h]
  simp
theorem sumQ_take {xs : List Qs} {j : Nat} {q : Qs} (h : xs[j]? = some q) : sumQ (xs.take (j + 1)) = sumQ (xs.take j) + q.name.length := by
  unfold sumQ
  rw [List.take_add_one, h]
  simp
theorem sum_take_le (l : List Nat) : ∀ j, (l.take j).sum ≤ l.sum := fun j => by
  have h : (l.take j).sum + (l.drop j).sum = l.sum := by rw [← List.sum_append_nat, List.take_append_drop]
  omega
theorem sumR_le (xs : List Rc) (j : Nat) : sumR (xs.take j) ≤ sumR xs := by
  unfold sumR
  rw [List.map_take]
  exact sum_take_le _ j
theorem sumQ_le (xs : List Qs) (j : Nat) : sumQ (xs.take j) ≤ sumQ xs := by
  unfold sumQ
  rw [List.map_take]
  exact sum_take_le _ j
set_option maxHeartbeats 8000000 in
theorem few_any {lo : Nat} {sq sa su se : Sl} {m : Ms} {w : World} (hm : MsM lo w sq sa su se m) (hr : (recs m).length ≤ 900000) (hq : m.qs.length ≤ 2000000) (hsr : sumR (recs m) ≤ 2000000) (hsq : sumQ m.qs ≤ 2000000) : Calls Tryz.prog 5 #[.agg (msv m.h sq sa su se)] w fun e w' =>
    e = .returned (.bool (decide (fewV m))) ∧ Below w.heap.size w w' := by
  obtain ⟨B, hB⟩ : ∃ B, decide (fewV m) = B := ⟨_, rfl⟩
  rw [hB]
  have HBB := Lib.hid hB
  clear hB
  have a1 := MsBox.new w m.h sq sa su se
  have b1 : Below w.heap.size w (w.alloc (.cells (msv m.h sq sa su se) 26)) := (Below.refl _ _).alloc (Nat.le_refl _) _
  obtain ⟨W, hW⟩ : ∃ W, w.alloc (.cells (msv m.h sq sa su se) 26) = W := ⟨_, rfl⟩
  rw [hW] at a1 b1
  have HW := Lib.hid hW
  have HA := Lib.hid (And.intro a1 b1)
  have hww := a1.lt
  have HM := Lib.hid hm
  have hla := hm.an.len
  have hlu := hm.au.len
  have hle := hm.ex.len
  have hlq := hm.qs.len
  clear a1 b1 hW hm
  have hcount : sa.n + su.n + se.n ≤ 900000 := by
    unfold recs at hr
    rw [List.length_append, List.length_append] at hr
    omega
  obtain ⟨da, hda⟩ := (HM.out.an.later HA.out.2 (Nat.le_refl _)).known
  obtain ⟨du, hdu⟩ := (HM.out.au.later HA.out.2 (Nat.le_refl _)).known
  obtain ⟨de, hde⟩ := (HM.out.ex.later HA.out.2 (Nat.le_refl _)).known
  have HK := Lib.hid (And.intro hda (And.intro hdu hde))
  have HQM := Lib.hid (And.intro HM.out.qs.cap HM.out.qs.max)
  clear hda hdu hde
  go_enter Tryz.func5, Tryz.ntmps5
  go_wp2_with (rw [HW.out])
  have hS : Below W.heap.size W W.drew := (Below.refl _ _).drew
  have r6 : ∀ w', Below W.heap.size W w' → w'.cell? ⟨w.heap.size, 6, none⟩ = some (.slice sa.A sa.n sa.c) := fun w' h => (HA.out.1.later h (Nat.le_refl _)).cell 6
  have r7 : ∀ w', Below W.heap.size W w' → w'.cell? ⟨w.heap.size, 7, none⟩ = some (.slice su.A su.n su.c) := fun w' h => (HA.out.1.later h (Nat.le_refl _)).cell 7
  have r8 : ∀ w', Below W.heap.size W w' → w'.cell? ⟨w.heap.size, 8, none⟩ = some (.slice se.A se.n se.c) := fun w' h => (HA.out.1.later h (Nat.le_refl _)).cell 8
  refine rg_begin (fun w' => Below W.heap.size W w') 10 (by kernel_rfl) rfl ?_
  refine rg_take 0 (v := ?rv1) rfl (by kernel_rfl) (by kernel_rfl) (by kernel_rfl) (fun _ _ _ h => h) (by rfl) hS (fun w2 hw2 => ?ry1) ?rr1
  case ry1 => ((try dsimp only at hw2); go_simp <;> with_reducible rfl)
  simp only [Act.put, List.setIfInBounds_toArray, List.set_cons_zero, List.set_cons_succ]
  refine rg_take 3 (v := ?rv2) rfl (by kernel_rfl) (by kernel_rfl) (by kernel_rfl) (fun _ _ _ h => h) (by rfl) hS (fun w2 hw2 => ?ry2) ?rr2
  case ry2 => ((try dsimp only at hw2); go_simp <;> with_reducible rfl)
  simp only [Act.put, List.setIfInBounds_toArray, List.set_cons_zero, List.set_cons_succ]
  refine rg_take 6 (v := ?rv3) rfl (by kernel_rfl) (by kernel_rfl) (by kernel_rfl) (fun _ _ _ h => h) (by rfl) hS (fun w2 hw2 => ?ry3) ?rr3
  case ry3 => ((try dsimp only at hw2); go_simp <;> with_reducible rfl)
  simp only [Act.put, List.setIfInBounds_toArray, List.set_cons_zero, List.set_cons_succ]
  refine rg_take 1 (v := ?rv4) rfl (by kernel_rfl) (by kernel_rfl) (by kernel_rfl) (fun _ _ _ h => h) (by rfl) hS (fun w2 hw2 => ?ry4) ?rr4
  case ry4 => ((try dsimp only at hw2); go_simp <;> with_reducible rfl)
  simp only [Act.put, List.setIfInBounds_toArray, List.set_cons_zero, List.set_cons_succ]
  refine rg_take 4 (v := ?rv5) rfl (by kernel_rfl) (by kernel_rfl) (by kernel_rfl) (fun _ _ _ h => h) (by rfl) hS (fun w2 hw2 => ?ry5) ?rr5
  case ry5 => ((try dsimp only at hw2); go_simp <;> with_reducible rfl)
  simp only [Act.put, List.setIfInBounds_toArray, List.set_cons_zero, List.set_cons_succ]
  refine rg_take 7 (v := ?rv6) rfl (by kernel_rfl) (by kernel_rfl) (by kernel_rfl) (fun _ _ _ h => h) (by rfl) hS (fun w2 hw2 => ?ry6) ?rr6
  case ry6 => ((try dsimp only at hw2); go_simp <;> with_reducible rfl)
  simp only [Act.put, List.setIfInBounds_toArray, List.set_cons_zero, List.set_cons_succ]
  clear r6 r7 r8
  refine rg_step 2 rfl (by kernel_rfl) (by rfl) (fun K hK => ?_)
  refine wp_cat_rc (.const (.slice none 0 0)) (.tmp 8) rfl W.heap.size (.slice none 0 0) [] [] rfl (RcO.nil 0 _ _) sa.A sa.n sa.c m.an da rfl (HK.out.1.later hS (Nat.le_refl _)) (fun _ _ _ _ _ => ⟨(fun e => by cases e), Nat.zero_le _⟩) (by show 0 + sa.n ≤ _; omega) hS.size ?_
  intro v1 u1 o1 g1
  replace hS := hS.grown g1 hS.size (fun q hq => by cases hq)
  refine hK.out _ _ hS ?_
  clear hK K
  try simp only [Act.put, List.setIfInBounds_toArray, List.set_cons_zero, List.set_cons_succ]
  refine rg_step 5 rfl (by kernel_rfl) (by rfl) (fun K hK => ?_)
  refine wp_cat_rc (.tmp 9) (.tmp 11) rfl W.heap.size v1 _ _ rfl o1 su.A su.n su.c m.au du rfl (HK.out.2.1.later hS (Nat.le_refl _)) (fun s hs hn a ha => ⟨(fun e => by have h1 := HK.out.2.1.blk s hs hn a ha; have h2 := (World.ownsRow.lt o1.own a.block e.symm).1; omega), Nat.zero_le _⟩) (by show m.an.length + su.n ≤ _; omega) hS.size ?_
  intro v2 u2 o2 g2
  replace hS := hS.grown g2 hS.size (fun q hq => (World.ownsRow.lt o1.own q hq).1)
  clear o1 g1
  refine hK.out _ _ hS ?_
  clear hK K
  try simp only [Act.put, List.setIfInBounds_toArray, List.set_cons_zero, List.set_cons_succ]
  refine rg_step 8 rfl (by kernel_rfl) (by rfl) (fun K hK => ?_)
  refine wp_cat_rc (.tmp 12) (.tmp 14) rfl W.heap.size v2 _ _ rfl o2 se.A se.n se.c m.ex de rfl (HK.out.2.2.later hS (Nat.le_refl _)) (fun s hs hn a ha => ⟨(fun e => by have h1 := HK.out.2.2.blk s hs hn a ha; have h2 := (World.ownsRow.lt o2.own a.block e.symm).1; omega), Nat.zero_le _⟩) (by show (m.an ++ m.au).length + se.n ≤ _; rw [List.length_append]; omega) hS.size ?_
  intro v3 u3 o3 g3
  replace hS := hS.grown g3 hS.size (fun q hq => (World.ownsRow.lt o2.own q hq).1)
  clear o2 g2 g3
  rw [show ([] ++ m.an ++ m.au ++ m.ex : List Rc) = recs m by simp [recs]] at o3
  obtain ⟨A3, c3, rfl, S3⟩ := RcS.of_own o3 (Nat.zero_le _)
  obtain ⟨n3, hn3⟩ : ∃ n, (recs m).length = n := ⟨_, rfl⟩
  rw [hn3] at S3 ⊢
  clear o3
  refine hK.out _ _ hS ?_
  clear hK K
  try simp only [Act.put, List.setIfInBounds_toArray, List.set_cons_zero, List.set_cons_succ]
  refine rg_take 9 (v := ?rv7) rfl (by kernel_rfl) (by kernel_rfl) (by kernel_rfl) (fun _ _ _ h => h) (by rfl) hS (fun w2 hw2 => ?ry7) ?rr7
  case ry7 => ((try dsimp only at hw2); go_simp <;> with_reducible rfl)
  simp only [Act.put, List.setIfInBounds_toArray, List.set_cons_zero, List.set_cons_succ]
  refine rg_done (by kernel_rfl) ?_
  have H3 := Lib.hid (And.intro S3 (And.intro hS (HA.out.2.trans (hS.mono HA.out.2.size))))
  have hcap3 := S3.cap
  have hmax3 := S3.max
  unfold maxLen at hmax3
  have hn3' : n3 ≤ 900000 := by omega
  have HN3 := Lib.hid hn3
  clear S3 hS hn3 hr
  go_wp2_with fail
  go_loopw [3, 5] (fun s i wr => ∃ j : Nat, j ≤ n3 ∧ i = .int .i64 j ∧ s = .int .i64 (sumR ((recs m).take j)) ∧ Below u3.heap.size u3 wr) (fun _ i _ => n3 - (intOf i).toNat)
  case atStart => exact ⟨0, Nat.zero_le _, rfl, rfl, Below.refl _ _⟩
  case round =>
    obtain ⟨j, hj, rfl, rfl, hbe⟩ := hrel
    by_cases hlt : j < n3
    · --<< la
      have hjl : j < (recs m).length := by rw [HN3.out]; exact hlt
      obtain ⟨r, hrj⟩ : ∃ r, (recs m)[j]? = some r := ⟨_, List.getElem?_eq_getElem hjl⟩
      obtain ⟨b, off, B2, k2, m2, hA3, hrg, hd2, _⟩ := (H3.out.1.later hbe (Nat.le_refl _)).here j r hrj
      subst hA3
      have hk := H3.out.1.ok r (List.mem_of_getElem? hrj)
      have hdl := hd2.len
      have htk := sumR_take hrj
      have hle1 := sumR_le (recs m) (j + 1)
      have s0 := mkS_size r.name
      have s1 := mkS_size r.target
      obtain ⟨p0, hp0⟩ : ∃ p, r.name.length = p := ⟨_, rfl⟩
      obtain ⟨p1, hp1⟩ : ∃ p, r.target.length = p := ⟨_, rfl⟩
      rw [hp0] at s0
      rw [hp1] at s1
      have htk' : sumR ((recs m).take (j + 1)) = sumR ((recs m).take j) + (p0 + p1 + k2) := by rw [htk, hp0, hp1, hdl]
      have HRG := Lib.hid hrg
      obtain ⟨n', hn'⟩ : ∃ n', sumR ((recs m).take j) = n' := ⟨_, rfl⟩
      rw [hn'] at htk' ⊢
      have i1 : IntKind.i64.wrap ((n' : Int) + p0) = (n' : Int) + p0 := IntWalk.i64_in _ (by omega)
      have i2 : IntKind.i64.wrap ((n' : Int) + p0 + p1) = (n' : Int) + p0 + p1 := IntWalk.i64_in _ (by omega)
      have i3 : IntKind.i64.wrap ((n' : Int) + p0 + p1 + k2) = (n' : Int) + p0 + p1 + k2 := IntWalk.i64_in _ (by omega)
      have hx := rc_cells hk hrg
      have q0 : ∀ w', Below wr.heap.size wr w' → w'.cell? ⟨b, off + j * 23, none⟩ = some (.string (mkS r.name)) := fun w' h => (h.cell (p := ⟨b, off + j * 23, none⟩) (lt_of_cell' hx.1)).trans hx.1
      have q1 : ∀ w', Below wr.heap.size wr w' → w'.cell? ⟨b, off + j * 23 + 21, none⟩ = some (.string (mkS r.target)) := fun w' h => (h.cell (p := ⟨b, off + j * 23 + 21, none⟩) (lt_of_cell' hx.2.1)).trans hx.2.1
      have q2 : ∀ w', Below wr.heap.size wr w' → w'.cell? ⟨b, off + j * 23 + 22, none⟩ = some (.slice B2 k2 m2) := fun w' h => (h.cell (p := ⟨b, off + j * 23 + 22, none⟩) (lt_of_cell' hx.2.2)).trans hx.2.2
      have HT := Lib.hid (And.intro htk' hbe)
      have hS : Below wr.heap.size wr wr.drew := (Below.refl _ _).drew
      have g0 : (0 : Int) ≤ (j : Int) := by omega
      have g1 : (j : Int) < (n3 : Int) := by omega
      clear hp0 hp1 htk htk' hbe hd2 hdl hrg hrj hk hx hle1 hn'
      go_wp2_with fail
      refine rg_begin (fun w' => Below wr.heap.size wr w') 23 (by kernel_rfl) rfl ?_
      refine rg_take 0 (v := ?rv8) rfl (by kernel_rfl) (by kernel_rfl) (by kernel_rfl) (fun _ _ _ h => h) (by rfl) hS (fun w2 hw2 => ?ry8) ?rr8
      case ry8 => ((try dsimp only at hw2); go_simp <;> with_reducible rfl)
      simp only [Act.put, List.setIfInBounds_toArray, List.set_cons_zero, List.set_cons_succ]
      refine rg_take 1 (v := ?rv9) rfl (by kernel_rfl) (by kernel_rfl) (by kernel_rfl) (fun _ _ _ h => h) (by rfl) hS (fun w2 hw2 => ?ry9) ?rr9
      case ry9 => ((try dsimp only at hw2); go_simp <;> with_reducible rfl)
      simp only [Act.put, List.setIfInBounds_toArray, List.set_cons_zero, List.set_cons_succ]
      refine rg_take 2 (v := ?rv10) rfl (by kernel_rfl) (by kernel_rfl) (by kernel_rfl) (fun _ _ _ h => h) (by rfl) hS (fun w2 hw2 => ?ry10) ?rr10
      case ry10 => ((try dsimp only at hw2); go_simp <;> with_reducible rfl)
      simp only [Act.put, List.setIfInBounds_toArray, List.set_cons_zero, List.set_cons_succ]
      refine rg_take 8 (v := ?rv11) rfl (by kernel_rfl) (by kernel_rfl) (by kernel_rfl) (fun _ _ _ h => h) (by rfl) hS (fun w2 hw2 => ?ry11) ?rr11
      case ry11 => ((try dsimp only at hw2); go_simp <;> with_reducible rfl)
      simp only [Act.put, List.setIfInBounds_toArray, List.set_cons_zero, List.set_cons_succ]
      refine rg_take 9 (v := ?rv12) rfl (by kernel_rfl) (by kernel_rfl) (by kernel_rfl) (fun _ _ _ h => h) (by rfl) hS (fun w2 hw2 => ?ry12) ?rr12
      case ry12 => ((try dsimp only at hw2); go_simp <;> with_reducible rfl)
      simp only [Act.put, List.setIfInBounds_toArray, List.set_cons_zero, List.set_cons_succ]
      refine rg_take 15 (v := ?rv13) rfl (by kernel_rfl) (by kernel_rfl) (by kernel_rfl) (fun _ _ _ h => h) (by rfl) hS (fun w2 hw2 => ?ry13) ?rr13
      case ry13 => ((try dsimp only at hw2); go_simp <;> with_reducible rfl)
      simp only [Act.put, List.setIfInBounds_toArray, List.set_cons_zero, List.set_cons_succ]
      refine rg_take 16 (v := ?rv14) rfl (by kernel_rfl) (by kernel_rfl) (by kernel_rfl) (fun _ _ _ h => h) (by rfl) hS (fun w2 hw2 => ?ry14) ?rr14
      case ry14 => ((try dsimp only at hw2); go_simp <;> with_reducible rfl)
      simp only [Act.put, List.setIfInBounds_toArray, List.set_cons_zero, List.set_cons_succ]
      refine rg_take 3 (v := ?rv15) rfl (by kernel_rfl) (by kernel_rfl) (by kernel_rfl) (fun _ _ _ h => h) (by rfl) hS (fun w2 hw2 => ?ry15) ?rr15
      case ry15 => ((try dsimp only at hw2); go_simp <;> with_reducible rfl)
      simp only [Act.put, List.setIfInBounds_toArray, List.set_cons_zero, List.set_cons_succ]
      refine rg_take 4 (v := ?rv16) rfl (by kernel_rfl) (by kernel_rfl) (by kernel_rfl) (fun _ _ _ h => h) (by rfl) hS (fun w2 hw2 => ?ry16) ?rr16
      case ry16 => ((try dsimp only at hw2); go_simp <;> with_reducible rfl)
      simp only [Act.put, List.setIfInBounds_toArray, List.set_cons_zero, List.set_cons_succ]
      refine rg_take 5 (v := ?rv17) rfl (by kernel_rfl) (by kernel_rfl) (by kernel_rfl) (fun _ _ _ h => h) (by rfl) hS (fun w2 hw2 => ?ry17) ?rr17
      case ry17 => ((try dsimp only at hw2); go_simp <;> with_reducible rfl)
      simp only [Act.put, List.setIfInBounds_toArray, List.set_cons_zero, List.set_cons_succ]
      refine rg_take 6 (v := ?rv18) rfl (by kernel_rfl) (by kernel_rfl) (by kernel_rfl) (fun _ _ _ h => h) (by rfl) hS (fun w2 hw2 => ?ry18) ?rr18
      case ry18 => ((try dsimp only at hw2); go_simp <;> with_reducible rfl)
      simp only [Act.put, List.setIfInBounds_toArray, List.set_cons_zero, List.set_cons_succ]
      refine rg_take 7 (v := ?rv19) rfl (by kernel_rfl) (by kernel_rfl) (by kernel_rfl) (fun _ _ _ h => h) (by rfl) hS (fun w2 hw2 => ?ry19) ?rr19
      case ry19 => ((try dsimp only at hw2); go_simp <;> with_reducible rfl)
      simp only [Act.put, List.setIfInBounds_toArray, List.set_cons_zero, List.set_cons_succ]
      refine rg_take 10 (v := ?rv20) rfl (by kernel_rfl) (by kernel_rfl) (by kernel_rfl) (fun _ _ _ h => h) (by rfl) hS (fun w2 hw2 => ?ry20) ?rr20
      case ry20 => ((try dsimp only at hw2); go_simp <;> with_reducible rfl)
      simp only [Act.put, List.setIfInBounds_toArray, List.set_cons_zero, List.set_cons_succ]
      refine rg_take 11 (v := ?rv21) rfl (by kernel_rfl) (by kernel_rfl) (by kernel_rfl) (fun _ _ _ h => h) (by rfl) hS (fun w2 hw2 => ?ry21) ?rr21
      case ry21 => ((try dsimp only at hw2); go_simp <;> with_reducible rfl)
      simp only [Act.put, List.setIfInBounds_toArray, List.set_cons_zero, List.set_cons_succ]
      refine rg_take 12 (v := ?rv22) rfl (by kernel_rfl) (by kernel_rfl) (by kernel_rfl) (fun _ _ _ h => h) (by rfl) hS (fun w2 hw2 => ?ry22) ?rr22
      case ry22 => ((try dsimp only at hw2); go_simp <;> with_reducible rfl)
      simp only [Act.put, List.setIfInBounds_toArray, List.set_cons_zero, List.set_cons_succ]
      refine rg_take 13 (v := ?rv23) rfl (by kernel_rfl) (by kernel_rfl) (by kernel_rfl) (fun _ _ _ h => h) (by rfl) hS (fun w2 hw2 => ?ry23) ?rr23
      case ry23 => ((try dsimp only at hw2); go_simp <;> with_reducible rfl)
      simp only [Act.put, List.setIfInBounds_toArray, List.set_cons_zero, List.set_cons_succ]
      refine rg_take 14 (v := ?rv24) rfl (by kernel_rfl) (by kernel_rfl) (by kernel_rfl) (fun _ _ _ h => h) (by rfl) hS (fun w2 hw2 => ?ry24) ?rr24
      case ry24 => ((try dsimp only at hw2); go_simp <;> with_reducible rfl)
      simp only [Act.put, List.setIfInBounds_toArray, List.set_cons_zero, List.set_cons_succ]
      refine rg_take 17 (v := ?rv25) rfl (by kernel_rfl) (by kernel_rfl) (by kernel_rfl) (fun _ _ _ h => h) (by rfl) hS (fun w2 hw2 => ?ry25) ?rr25
      case ry25 => ((try dsimp only at hw2); go_simp <;> with_reducible rfl)
      simp only [Act.put, List.setIfInBounds_toArray, List.set_cons_zero, List.set_cons_succ]
      refine rg_take 18 (v := ?rv26) rfl (by kernel_rfl) (by kernel_rfl) (by kernel_rfl) (fun _ _ _ h => h) (by rfl) hS (fun w2 hw2 => ?ry26) ?rr26
      case ry26 => ((try dsimp only at hw2); go_simp <;> with_reducible rfl)
      simp only [Act.put, List.setIfInBounds_toArray, List.set_cons_zero, List.set_cons_succ]
      refine rg_take 19 (v := ?rv27) rfl (by kernel_rfl) (by kernel_rfl) (by kernel_rfl) (fun _ _ _ h => h) (by rfl) hS (fun w2 hw2 => ?ry27) ?rr27
      case ry27 => ((try dsimp only at hw2); go_simp <;> with_reducible rfl)
      simp only [Act.put, List.setIfInBounds_toArray, List.set_cons_zero, List.set_cons_succ]
      refine rg_take 20 (v := ?rv28) rfl (by kernel_rfl) (by kernel_rfl) (by kernel_rfl) (fun _ _ _ h => h) (by rfl) hS (fun w2 hw2 => ?ry28) ?rr28
      case ry28 => ((try dsimp only at hw2); go_simp <;> with_reducible rfl)
      simp only [Act.put, List.setIfInBounds_toArray, List.set_cons_zero, List.set_cons_succ]
      refine rg_take 21 (v := ?rv29) rfl (by kernel_rfl) (by kernel_rfl) (by kernel_rfl) (fun _ _ _ h => h) (by rfl) hS (fun w2 hw2 => ?ry29) ?rr29
      case ry29 => ((try dsimp only at hw2); go_simp <;> with_reducible rfl)
      simp only [Act.put, List.setIfInBounds_toArray, List.set_cons_zero, List.set_cons_succ]
      refine rg_take 22 (v := ?rv30) rfl (by kernel_rfl) (by kernel_rfl) (by kernel_rfl) (fun _ _ _ h => h) (by rfl) hS (fun w2 hw2 => ?ry30) ?rr30
      case ry30 => ((try dsimp only at hw2); go_simp <;> with_reducible rfl)
      simp only [Act.put, List.setIfInBounds_toArray, List.set_cons_zero, List.set_cons_succ]
      refine rg_done (by kernel_rfl) ?_
      clear q0 q1 q2
      go_wp2_with fail
      refine ⟨⟨j + 1, hlt, by go_num, by rw [HT.out.1]; go_num, (HT.out.2.drew)⟩, by simp [intOf]; omega⟩
      -->>
    · obtain rfl : j = n3 := by omega
      have hfull : (recs m).take j = recs m := List.take_of_length_le (by rw [HN3.out]; exact Nat.le_refl _)
      rw [hfull]
      have HBE := Lib.hid hbe
      have hbs := hbe.size
      clear hfull hbe
      have hqc := HQM.out.1
      have hqm := HQM.out.2
      unfold maxLen at hqm
      obtain ⟨nr, hnr⟩ : ∃ n, sumR (recs m) = n := ⟨_, rfl⟩
      rw [hnr] at hsr ⊢
      have HNR := Lib.hid hnr
      clear hnr
      have HBX := Lib.hid (And.intro (HA.out.1.later (H3.out.2.1.trans (HBE.out.mono H3.out.2.1.size)) (Nat.le_refl _)) (And.intro (HM.out.qs.later (H3.out.2.2.trans (HBE.out.mono (Nat.le_trans (Nat.le_of_lt hww) H3.out.2.1.size))) (Nat.le_refl _)) (H3.out.2.2.trans (HBE.out.mono (Nat.le_trans (Nat.le_of_lt hww) H3.out.2.1.size)))))
      have k5 : wr.cell? ⟨w.heap.size, 5, none⟩ = some (.slice sq.A sq.n sq.c) := HBX.out.1.cell 5
      go_wp2_with fail
      go_loop [3, 6] (fun s i => ∃ t : Nat, t ≤ sq.n ∧ i = .int .i64 t ∧ s = .int .i64 ((nr + sumQ (m.qs.take t) : Nat) : Int)) (fun _ i => sq.n - (intOf i).toNat)
      case atStart => exact ⟨0, Nat.zero_le _, rfl, by simp [sumQ]⟩
      case round =>
        obtain ⟨t, ht, rfl, rfl⟩ := hrel
        by_cases htl : t < sq.n
        · --<< lb
          obtain ⟨q, hqt⟩ : ∃ q, m.qs[t]? = some q := ⟨_, List.getElem?_eq_getElem (by omega)⟩
          obtain ⟨b, off, hAq, hrg, _⟩ := HBX.out.2.1.here t q hqt
          rw [hAq] at k5
          have s0 := mkS_size q.name
          obtain ⟨p0, hp0⟩ : ∃ p, (mkS q.name).size = p := ⟨_, rfl⟩
          rw [hp0] at s0
          have htk := sumQ_take hqt
          have hle1 := sumQ_le m.qs (t + 1)
          rw [← s0] at htk
          have q0 : wr.cell? ⟨b, off + t * 3, none⟩ = some (.string (mkS q.name)) := by have := hrg 0 (.string (mkS q.name)) rfl; simpa using this
          obtain ⟨nq, hnq⟩ : ∃ n, sumQ (m.qs.take t) = n := ⟨_, rfl⟩
          rw [hnq] at htk ⊢
          have HT := Lib.hid htk
          have hbd : nq + p0 ≤ 2000000 := by omega
          clear htk hle1 hrg hqt hnq hAq
          go_wp2_with fail
          refine ⟨⟨t + 1, htl, by go_num, by rw [HT.out]; go_num⟩, by simp [intOf]; omega⟩
          -->>
        · obtain rfl : t = sq.n := by omega
          have hfull : m.qs.take sq.n = m.qs := List.take_of_length_le (by omega)
          rw [hfull]
          obtain ⟨nq, hnq⟩ : ∃ n, sumQ m.qs = n := ⟨_, rfl⟩
          rw [hnq] at hsq ⊢
          have hBv : decide (nr + nq ≤ 8000 ∧ j ≤ 100 ∧ sq.n ≤ 100) = B := by
            have h := HBB.out
            rw [← h]
            exact decide_eq_decide.2 (by unfold fewV; rw [HNR.out, hnq, HN3.out, hlq])
          have HBV := Lib.hid hBv
          clear hBv hnq hfull ht
          have hret : ∀ x : Bool, decide (nr + nq ≤ 8000 ∧ j ≤ 100 ∧ sq.n ≤ 100) = x → x = B := fun x h => by rw [← h, HBV.out]
          have HRET := Lib.hid hret
          clear hret
          --<< lc
          by_cases c1 : nr + nq ≤ 8000
          · have d1 : decide (((nr + nq : Nat) : Int) ≤ 8000) = true := decide_eq_true (by omega)
            by_cases c2 : j ≤ 100
            · have d2 : decide ((j : Int) ≤ 100) = true := decide_eq_true (by omega)
              by_cases c3 : sq.n ≤ 100
              · have d3 : decide ((sq.n : Int) ≤ 100) = true := decide_eq_true (by omega)
                go_wp2_with fail
                go_ret
                exact ⟨by have hx := HRET.out true (decide_eq_true ⟨c1, c2, c3⟩); subst hx; rfl, HBX.out.2.2⟩
              · have d3 : decide ((sq.n : Int) ≤ 100) = false := decide_eq_false (by omega)
                go_wp2_with fail
                go_ret
                exact ⟨by have hx := HRET.out false (decide_eq_false fun h => c3 h.2.2); subst hx; rfl, HBX.out.2.2⟩
            · have d2 : decide ((j : Int) ≤ 100) = false := decide_eq_false (by omega)
              go_wp2_with fail
              go_ret
              exact ⟨by have hx := HRET.out false (decide_eq_false fun h => c2 h.2.1); subst hx; rfl, HBX.out.2.2⟩
          · have d1 : decide (((nr + nq : Nat) : Int) ≤ 8000) = false := decide_eq_false (by omega)
            go_wp2_with fail
            go_ret
            exact ⟨by have hx := HRET.out false (decide_eq_false fun h => c1 h.1); subst hx; rfl, HBX.out.2.2⟩
          -->>
end Go.Proofs.YtbikifaadpijnaaGreatDoor

namespace Go.Proofs.YtbikifaadpijnaaGreatDoor
open Go.RowKit
set_option maxRecDepth 100000

set_option maxHeartbeats 2000000 in
theorem same_rcs {lo lo' : Nat} {A B : Option Addr} {n c m d : Nat} {xs : List Rc} {w : World} (ha : RcS lo w A n c xs) (hb : RcS lo' w B m d xs) : Calls Tryz.prog 40 #[.slice A n c, .slice B m d, .func (.func 41) #[] #[]] w fun e w' => e = .returned (.bool true) ∧ Below w.heap.size w w' := by
  obtain rfl : m = n := hb.len.symm.trans ha.len
  have hmax := Nat.le_trans ha.cap ha.max
  unfold maxLen at hmax
  have hl := ha.len
  have HA := Lib.hid (And.intro ha hb)
  clear ha hb
  --<< a
  go_enter Tryz.func40, Tryz.ntmps40
  go_wp2_with fail
  go_loopw [7] (fun i wr => ∃ k : Nat, k ≤ m ∧ i = .int .i64 k ∧ Below w.heap.size w wr) (fun i _ => m - (intOf i).toNat)
  case atStart => exact ⟨0, Nat.zero_le _, rfl, Below.refl _ _⟩
  case round =>
    obtain ⟨k, hk, rfl, hbe⟩ := hrel
    by_cases hlt : k < m
    · obtain ⟨x, hx⟩ : ∃ x, xs[k]? = some x := ⟨xs[k]'(by omega), List.getElem?_eq_getElem _⟩
      obtain ⟨b, off, B1, m1, d1, hA1, hr1, hd1, _, _⟩ := (HA.out.1.later hbe (Nat.le_refl _)).here k x hx
      obtain ⟨b', off', B2, m2, d2, hA2, hr2, hd2, _, _⟩ := (HA.out.2.later hbe (Nat.le_refl _)).here k x hx
      subst hA1 hA2
      have hok := HA.out.1.ok x (List.mem_of_getElem? hx)
      obtain ⟨X1, hX1⟩ : ∃ X, rcv x B1 m1 d1 = X := ⟨_, rfl⟩
      obtain ⟨X2, hX2⟩ : ∃ X, rcv x B2 m2 d2 = X := ⟨_, rfl⟩
      have HX1 := Lib.hid hX1
      have HX2 := Lib.hid hX2
      have hs1 : (Tryz.prog.info? 57).map (·.size) = some X1.size := by rw [← hX1]; exact rc_size hok _ _ _
      have hs2 : (Tryz.prog.info? 57).map (·.size) = some X2.size := by rw [← hX2]; exact rc_size hok _ _ _
      rw [hX1] at hr1
      rw [hX2] at hr2
      have HR := Lib.hid (And.intro hr1 hr2)
      have HD := Lib.hid (And.intro hd1 (And.intro hd2 (And.intro hok hbe)))
      have HS := Lib.hid (And.intro hs1 hs2)
      have hne1 : X1.toList ≠ [] := by rw [← hX1]; exact rcv_ne _ _ _ _
      have hne2 : X2.toList ≠ [] := by rw [← hX2]; exact rcv_ne _ _ _ _
      have HNE := Lib.hid (And.intro hne1 hne2)
      clear hbe hx hr1 hr2 hd1 hd2 hok hX1 hX2 hs1 hs2 hne1 hne2
      have g0 : (0 : Int) ≤ (k : Int) := by omega
      have g1 : (k : Int) < (m : Int) := by omega
      go_wp2_with fail
      have hS : Below wr.heap.size wr wr.drew := (Below.refl _ _).drew
      refine rg_begin (fun w' => Below wr.heap.size wr w') 11 (by kernel_rfl) rfl ?_
      refine rg_take 0 (v := ?rv1) rfl (by kernel_rfl) (by kernel_rfl) (by kernel_rfl) (fun _ _ _ h => h) (by rfl) hS (fun w2 hw2 => ?ry1) ?rr1
      case ry1 => ((try dsimp only at hw2); go_simp <;> with_reducible rfl)
      simp only [Act.put, List.setIfInBounds_toArray, List.set_cons_zero, List.set_cons_succ]
      refine rg_take 1 (v := ?rv2) rfl (by kernel_rfl) (by kernel_rfl) (by kernel_rfl) (fun _ _ _ h => h) (by rfl) hS (fun w2 hw2 => ?ry2) ?rr2
      case ry2 => ((try dsimp only at hw2); go_simp <;> with_reducible rfl)
      simp only [Act.put, List.setIfInBounds_toArray, List.set_cons_zero, List.set_cons_succ]
      refine rg_take 2 (v := ?rv3) rfl (by kernel_rfl) (by kernel_rfl) (by kernel_rfl) (fun _ _ _ h => h) (by rfl) hS (fun w2 hw2 => ?ry3) ?rr3
      case ry3 => ((try dsimp only at hw2); go_simp <;> with_reducible rfl)
      simp only [Act.put, List.setIfInBounds_toArray, List.set_cons_zero, List.set_cons_succ]
      refine rg_take 5 (v := ?rv4) rfl (by kernel_rfl) (by kernel_rfl) (by kernel_rfl) (fun _ _ _ h => h) (by rfl) hS (fun w2 hw2 => ?ry4) ?rr4
      case ry4 => ((try dsimp only at hw2); go_simp <;> with_reducible rfl)
      simp only [Act.put, List.setIfInBounds_toArray, List.set_cons_zero, List.set_cons_succ]
      refine rg_take 6 (v := ?rv5) rfl (by kernel_rfl) (by kernel_rfl) (by kernel_rfl) (fun _ _ _ h => h) (by rfl) hS (fun w2 hw2 => ?ry5) ?rr5
      case ry5 => ((try dsimp only at hw2); go_simp <;> with_reducible rfl)
      simp only [Act.put, List.setIfInBounds_toArray, List.set_cons_zero, List.set_cons_succ]
      refine rg_take 3 (v := ?rv6) rfl (by kernel_rfl) (by kernel_rfl) (by kernel_rfl) (fun _ _ _ h => h) (by rfl) hS (fun w2 hw2 => ?ry6) ?rr6
      case ry6 => ((try dsimp only at hw2); go_simp <;> with_reducible rfl)
      simp only [Act.put, List.setIfInBounds_toArray, List.set_cons_zero, List.set_cons_succ]
      refine rg_take 7 (v := ?rv7) rfl (by kernel_rfl) (by kernel_rfl) (by kernel_rfl) (fun _ _ _ h => h) (by rfl) hS (fun w2 hw2 => ?ry7) ?rr7
      case ry7 => ((try dsimp only at hw2); go_simp <;> with_reducible rfl)
      simp only [Act.put, List.setIfInBounds_toArray, List.set_cons_zero, List.set_cons_succ]
      refine rg_load 4 rfl (by kernel_rfl) (by kernel_rfl) (by kernel_rfl) (b) (off + k * 23) (X1) (fun _ _ _ h => h) (by rfl) 57 (.tmp 22) rfl rfl hS (fun w2 h2 => rangeAt_later HR.out.1 HNE.out.1 h2 (Nat.le_refl _)) Tryz.underlying57 rfl (HS.out.1) ?_
      simp only [Act.put, List.setIfInBounds_toArray, List.set_cons_zero, List.set_cons_succ]
      refine rg_load 8 rfl (by kernel_rfl) (by kernel_rfl) (by kernel_rfl) (b') (off' + k * 23) (X2) (fun _ _ _ h => h) (by rfl) 57 (.tmp 26) rfl rfl hS (fun w2 h2 => rangeAt_later HR.out.2 HNE.out.2 h2 (Nat.le_refl _)) Tryz.underlying57 rfl (HS.out.2) ?_
      simp only [Act.put, List.setIfInBounds_toArray, List.set_cons_zero, List.set_cons_succ]
      refine rg_step 9 rfl (by kernel_rfl) (by rfl) (fun K hK => ?_)
      go_simp
      rw [← HX1.out, ← HX2.out]
      refine (record_same HD.out.2.2.1 (HD.out.1.later hS (Nat.le_refl _)) (HD.out.2.1.later hS (Nat.le_refl _))).mono ?_
      rintro e w' ⟨rfl, bk⟩
      replace hS := hS.trans (bk.mono hS.size)
      clear bk
      refine hK.out _ _ hS ?_
      clear hK K
      try simp only [Act.put, List.setIfInBounds_toArray, List.set_cons_zero, List.set_cons_succ]
      refine rg_take 10 (v := ?rv8) rfl (by kernel_rfl) (by kernel_rfl) (by kernel_rfl) (fun _ _ _ h => h) (by rfl) hS (fun w2 hw2 => ?ry8) ?rr8
      case ry8 => ((try dsimp only at hw2); go_simp <;> with_reducible rfl)
      simp only [Act.put, List.setIfInBounds_toArray, List.set_cons_zero, List.set_cons_succ]
      refine rg_done (by kernel_rfl) ?_
      have H2 := Lib.hid (HD.out.2.2.2.trans (Below.mono hS HD.out.2.2.2.size))
      clear hS
      go_wp2_with fail
      exact ⟨⟨k + 1, hlt, by go_num, H2.out⟩, by simp [intOf]; omega⟩
    · have H2 := Lib.hid hbe
      clear hbe
      go_wp2_with fail
      go_ret
      exact ⟨rfl, H2.out⟩
  -->>
theorem plainQ (q : Qs) (w : World) : Calls Tryz.prog 71 #[.agg (qsv q), .agg (qsv q)] w fun e w' => e = .returned (.bool true) ∧ Below w.heap.size w w' := by
  have a1 := QsBox.new w q
  have b1 : Below w.heap.size w (w.alloc (.cells (qsv q) 51)) := (Below.refl _ _).alloc (Nat.le_refl _) _
  have a2 := QsBox.new (w.alloc (.cells (qsv q) 51)) q
  rw [World.size_alloc] at a2
  have b2 : Below (w.heap.size + 1) (w.alloc (.cells (qsv q) 51)) ((w.alloc (.cells (qsv q) 51)).alloc (.cells (qsv q) 51)) := (Below.refl _ _).alloc (by simp) _
  have hA := And.intro (a1.later b2 (by simp)) (And.intro a2 (b1.trans (b2.mono (by omega))))
  obtain ⟨W, hW⟩ : ∃ W, (w.alloc (.cells (qsv q) 51)).alloc (.cells (qsv q) 51) = W := ⟨_, rfl⟩
  rw [hW] at hA
  have HA := Lib.hid hA
  have HW := Lib.hid hW
  have heq := eql_qs q
  clear a1 a2 b1 b2 hA hW
  --<< c
  go_enter Tryz.func71, Tryz.ntmps71
  go_wp2_with (first
    | (rw [HW.out]; refine wpList_load_qs rfl (.tmp 2) rfl rfl HA.out.1 ?_)
    | (refine wpList_load_qs rfl (.tmp 3) rfl rfl HA.out.2.1 ?_))
  go_ret
  exact ⟨rfl, HA.out.2.2⟩
  -->>
set_option maxHeartbeats 2000000 in
theorem same_qs {lo lo' : Nat} {A B : Option Addr} {n c m d : Nat} {xs : List Qs} {w : World} (ha : QsS lo w A n c xs) (hb : QsS lo' w B m d xs) : Calls Tryz.prog 70 #[.slice A n c, .slice B m d, .func (.func 71) #[] #[]] w fun e w' => e = .returned (.bool true) ∧ Below w.heap.size w w' := by
  obtain rfl : m = n := hb.len.symm.trans ha.len
  have hmax := Nat.le_trans ha.cap ha.max
  unfold maxLen at hmax
  have hl := ha.len
  have HA := Lib.hid (And.intro ha hb)
  clear ha hb
  --<< b
  go_enter Tryz.func70, Tryz.ntmps70
  go_wp2_with fail
  go_loopw [7] (fun i wr => ∃ k : Nat, k ≤ m ∧ i = .int .i64 k ∧ Below w.heap.size w wr) (fun i _ => m - (intOf i).toNat)
  case atStart => exact ⟨0, Nat.zero_le _, rfl, Below.refl _ _⟩
  case round =>
    obtain ⟨k, hk, rfl, hbe⟩ := hrel
    by_cases hlt : k < m
    · obtain ⟨x, hx⟩ : ∃ x, xs[k]? = some x := ⟨xs[k]'(by omega), List.getElem?_eq_getElem _⟩
      obtain ⟨b, off, hA1, hr1, _⟩ := (HA.out.1.later hbe (Nat.le_refl _)).here k x hx
      obtain ⟨b', off', hA2, hr2, _⟩ := (HA.out.2.later hbe (Nat.le_refl _)).here k x hx
      subst hA1 hA2
      obtain ⟨X1, hX1⟩ : ∃ X, qsv x = X := ⟨_, rfl⟩
      obtain ⟨X2, hX2⟩ : ∃ X, qsv x = X := ⟨_, rfl⟩
      have HX1 := Lib.hid hX1
      have HX2 := Lib.hid hX2
      have hs1 : (Tryz.prog.info? 51).map (·.size) = some X1.size := by rw [← hX1]; exact qs_size x
      have hs2 : (Tryz.prog.info? 51).map (·.size) = some X2.size := by rw [← hX2]; exact qs_size x
      rw [hX1] at hr1
      rw [hX2] at hr2
      have HR := Lib.hid (And.intro hr1 hr2)
      have HD := Lib.hid hbe
      have HS := Lib.hid (And.intro hs1 hs2)
      have hne1 : X1.toList ≠ [] := by rw [← hX1]; simp [qsv]
      have hne2 : X2.toList ≠ [] := by rw [← hX2]; simp [qsv]
      have HNE := Lib.hid (And.intro hne1 hne2)
      clear hbe hx hr1 hr2 hX1 hX2 hs1 hs2 hne1 hne2
      have g0 : (0 : Int) ≤ (k : Int) := by omega
      have g1 : (k : Int) < (m : Int) := by omega
      go_wp2_with fail
      have hS : Below wr.heap.size wr wr.drew := (Below.refl _ _).drew
      refine rg_begin (fun w' => Below wr.heap.size wr w') 11 (by kernel_rfl) rfl ?_
      refine rg_take 0 (v := ?rv9) rfl (by kernel_rfl) (by kernel_rfl) (by kernel_rfl) (fun _ _ _ h => h) (by rfl) hS (fun w2 hw2 => ?ry9) ?rr9
      case ry9 => ((try dsimp only at hw2); go_simp <;> with_reducible rfl)
      simp only [Act.put, List.setIfInBounds_toArray, List.set_cons_zero, List.set_cons_succ]
      refine rg_take 1 (v := ?rv10) rfl (by kernel_rfl) (by kernel_rfl) (by kernel_rfl) (fun _ _ _ h => h) (by rfl) hS (fun w2 hw2 => ?ry10) ?rr10
      case ry10 => ((try dsimp only at hw2); go_simp <;> with_reducible rfl)
      simp only [Act.put, List.setIfInBounds_toArray, List.set_cons_zero, List.set_cons_succ]
      refine rg_take 2 (v := ?rv11) rfl (by kernel_rfl) (by kernel_rfl) (by kernel_rfl) (fun _ _ _ h => h) (by rfl) hS (fun w2 hw2 => ?ry11) ?rr11
      case ry11 => ((try dsimp only at hw2); go_simp <;> with_reducible rfl)
      simp only [Act.put, List.setIfInBounds_toArray, List.set_cons_zero, List.set_cons_succ]
      refine rg_take 5 (v := ?rv12) rfl (by kernel_rfl) (by kernel_rfl) (by kernel_rfl) (fun _ _ _ h => h) (by rfl) hS (fun w2 hw2 => ?ry12) ?rr12
      case ry12 => ((try dsimp only at hw2); go_simp <;> with_reducible rfl)
      simp only [Act.put, List.setIfInBounds_toArray, List.set_cons_zero, List.set_cons_succ]
      refine rg_take 6 (v := ?rv13) rfl (by kernel_rfl) (by kernel_rfl) (by kernel_rfl) (fun _ _ _ h => h) (by rfl) hS (fun w2 hw2 => ?ry13) ?rr13
      case ry13 => ((try dsimp only at hw2); go_simp <;> with_reducible rfl)
      simp only [Act.put, List.setIfInBounds_toArray, List.set_cons_zero, List.set_cons_succ]
      refine rg_take 3 (v := ?rv14) rfl (by kernel_rfl) (by kernel_rfl) (by kernel_rfl) (fun _ _ _ h => h) (by rfl) hS (fun w2 hw2 => ?ry14) ?rr14
      case ry14 => ((try dsimp only at hw2); go_simp <;> with_reducible rfl)
      simp only [Act.put, List.setIfInBounds_toArray, List.set_cons_zero, List.set_cons_succ]
      refine rg_take 7 (v := ?rv15) rfl (by kernel_rfl) (by kernel_rfl) (by kernel_rfl) (fun _ _ _ h => h) (by rfl) hS (fun w2 hw2 => ?ry15) ?rr15
      case ry15 => ((try dsimp only at hw2); go_simp <;> with_reducible rfl)
      simp only [Act.put, List.setIfInBounds_toArray, List.set_cons_zero, List.set_cons_succ]
      refine rg_load 4 rfl (by kernel_rfl) (by kernel_rfl) (by kernel_rfl) (b) (off + k * 3) (X1) (fun _ _ _ h => h) (by rfl) 51 (.tmp 22) rfl rfl hS (fun w2 h2 => rangeAt_later HR.out.1 HNE.out.1 h2 (Nat.le_refl _)) Tryz.underlying51 rfl (HS.out.1) ?_
      simp only [Act.put, List.setIfInBounds_toArray, List.set_cons_zero, List.set_cons_succ]
      refine rg_load 8 rfl (by kernel_rfl) (by kernel_rfl) (by kernel_rfl) (b') (off' + k * 3) (X2) (fun _ _ _ h => h) (by rfl) 51 (.tmp 26) rfl rfl hS (fun w2 h2 => rangeAt_later HR.out.2 HNE.out.2 h2 (Nat.le_refl _)) Tryz.underlying51 rfl (HS.out.2) ?_
      simp only [Act.put, List.setIfInBounds_toArray, List.set_cons_zero, List.set_cons_succ]
      refine rg_step 9 rfl (by kernel_rfl) (by rfl) (fun K hK => ?_)
      go_simp
      rw [← HX1.out, ← HX2.out]
      refine (plainQ x _).mono ?_
      rintro e w' ⟨rfl, bk⟩
      replace hS := hS.trans (bk.mono hS.size)
      clear bk
      refine hK.out _ _ hS ?_
      clear hK K
      try simp only [Act.put, List.setIfInBounds_toArray, List.set_cons_zero, List.set_cons_succ]
      refine rg_take 10 (v := ?rv16) rfl (by kernel_rfl) (by kernel_rfl) (by kernel_rfl) (fun _ _ _ h => h) (by rfl) hS (fun w2 hw2 => ?ry16) ?rr16
      case ry16 => ((try dsimp only at hw2); go_simp <;> with_reducible rfl)
      simp only [Act.put, List.setIfInBounds_toArray, List.set_cons_zero, List.set_cons_succ]
      refine rg_done (by kernel_rfl) ?_
      have H2 := Lib.hid (HD.out.trans (Below.mono hS HD.out.size))
      clear hS
      go_wp2_with fail
      exact ⟨⟨k + 1, hlt, by go_num, H2.out⟩, by simp [intOf]; omega⟩
    · have H2 := Lib.hid hbe
      clear hbe
      go_wp2_with fail
      go_ret
      exact ⟨rfl, H2.out⟩
  -->>
theorem plain_qs {lo lo' : Nat} {A B : Option Addr} {n c m d : Nat} {xs : List Qs} {w : World} (ha : QsS lo w A n c xs) (hb : QsS lo' w B m d xs) : Calls Tryz.prog 39 #[.slice A n c, .slice B m d] w fun e w' => e = .returned (.bool true) ∧ Below w.heap.size w w' := by
  have H := Lib.hid (same_qs ha hb)
  clear ha hb
  --<< d
  go_enter Tryz.func39, Tryz.ntmps39
  go_wp2_with fail
  refine H.out.mono ?_
  rintro e w' ⟨rfl, b⟩
  have HB := Lib.hid b
  clear b
  go_wp2_with fail
  go_ret
  exact ⟨rfl, HB.out⟩
  -->>
set_option maxHeartbeats 4000000 in
theorem message_same {lo lo' : Nat} {sq sa su se sq' sa' su' se' : Sl} {m : Ms} {w : World} (h1 : MsM lo w sq sa su se m) (h2 : MsM lo' w sq' sa' su' se' m) : Calls Tryz.prog 12 #[.agg (msv m.h sq sa su se), .agg (msv m.h sq' sa' su' se')] w fun e w' => e = .returned (.bool true) ∧ Below w.heap.size w w' := by
  have a1 := MsBox.new w m.h sq sa su se
  have b1 : Below w.heap.size w (w.alloc (.cells (msv m.h sq sa su se) 26)) := (Below.refl _ _).alloc (Nat.le_refl _) _
  have a2 := MsBox.new (w.alloc (.cells (msv m.h sq sa su se) 26)) m.h sq' sa' su' se'
  rw [World.size_alloc] at a2
  have b2 : Below (w.heap.size + 1) (w.alloc (.cells (msv m.h sq sa su se) 26)) ((w.alloc (.cells (msv m.h sq sa su se) 26)).alloc (.cells (msv m.h sq' sa' su' se') 26)) := (Below.refl _ _).alloc (by simp) _
  have hA := And.intro (a1.later b2 (by simp)) (And.intro a2 (b1.trans (b2.mono (by omega))))
  obtain ⟨W, hW⟩ : ∃ W, (w.alloc (.cells (msv m.h sq sa su se) 26)).alloc (.cells (msv m.h sq' sa' su' se') 26) = W := ⟨_, rfl⟩
  rw [hW] at hA
  have HA := Lib.hid hA
  have HW := Lib.hid hW
  have HM := Lib.hid (And.intro h1 h2)
  have x0 : W.cell? ⟨w.heap.size, 0, none⟩ = some (.int .i64 m.h.id) := hA.1.cell 0
  have y0 : W.cell? ⟨w.heap.size + 1, 0, none⟩ = some (.int .i64 m.h.id) := hA.2.1.cell 0
  have x1 : W.cell? ⟨w.heap.size, 1, none⟩ = some (.bool m.h.reply) := hA.1.cell 1
  have y1 : W.cell? ⟨w.heap.size + 1, 1, none⟩ = some (.bool m.h.reply) := hA.2.1.cell 1
  have x2 : W.cell? ⟨w.heap.size, 2, none⟩ = some (.int .i64 m.h.opcode) := hA.1.cell 2
  have y2 : W.cell? ⟨w.heap.size + 1, 2, none⟩ = some (.int .i64 m.h.opcode) := hA.2.1.cell 2
  have x3 : W.cell? ⟨w.heap.size, 3, none⟩ = some (.int .i64 m.h.code) := hA.1.cell 3
  have y3 : W.cell? ⟨w.heap.size + 1, 3, none⟩ = some (.int .i64 m.h.code) := hA.2.1.cell 3
  have x4 : W.cell? ⟨w.heap.size, 4, none⟩ = some (.int .i64 m.h.flags) := hA.1.cell 4
  have y4 : W.cell? ⟨w.heap.size + 1, 4, none⟩ = some (.int .i64 m.h.flags) := hA.2.1.cell 4
  have x5 : W.cell? ⟨w.heap.size, 5, none⟩ = some (.slice sq.A sq.n sq.c) := hA.1.cell 5
  have y5 : W.cell? ⟨w.heap.size + 1, 5, none⟩ = some (.slice sq'.A sq'.n sq'.c) := hA.2.1.cell 5
  have x6 : W.cell? ⟨w.heap.size, 6, none⟩ = some (.slice sa.A sa.n sa.c) := hA.1.cell 6
  have y6 : W.cell? ⟨w.heap.size + 1, 6, none⟩ = some (.slice sa'.A sa'.n sa'.c) := hA.2.1.cell 6
  have x7 : W.cell? ⟨w.heap.size, 7, none⟩ = some (.slice su.A su.n su.c) := hA.1.cell 7
  have y7 : W.cell? ⟨w.heap.size + 1, 7, none⟩ = some (.slice su'.A su'.n su'.c) := hA.2.1.cell 7
  have x8 : W.cell? ⟨w.heap.size, 8, none⟩ = some (.slice se.A se.n se.c) := hA.1.cell 8
  have y8 : W.cell? ⟨w.heap.size + 1, 8, none⟩ = some (.slice se'.A se'.n se'.c) := hA.2.1.cell 8
  clear a1 a2 b1 b2 hA hW h1 h2
  --<< e
  go_enter Tryz.func12, Tryz.ntmps12
  go_wp2_with (rw [HW.out])
  refine (plain_qs (HM.out.1.qs.later HA.out.2.2 (Nat.le_refl _)) (HM.out.2.qs.later HA.out.2.2 (Nat.le_refl _))).mono ?_
  rintro e w1 ⟨rfl, c1⟩
  have H1 := Lib.hid (And.intro (HA.out.1.later c1 (Nat.le_refl _)) (And.intro (HA.out.2.1.later c1 (Nat.le_refl _)) (HA.out.2.2.trans (c1.mono HA.out.2.2.size))))
  clear c1 x0 y0 x1 y1 x2 y2 x3 y3 x4 y4 x5 y5 x6 y6 x7 y7 x8 y8
  have x : w1.cell? ⟨w.heap.size, 6, none⟩ = some (.slice sa.A sa.n sa.c) := H1.out.1.cell 6
  have y : w1.cell? ⟨w.heap.size + 1, 6, none⟩ = some (.slice sa'.A sa'.n sa'.c) := H1.out.2.1.cell 6
  go_wp2_with fail
  refine (same_rcs (HM.out.1.an.later H1.out.2.2 (Nat.le_refl _)) (HM.out.2.an.later H1.out.2.2 (Nat.le_refl _))).mono ?_
  rintro e w2 ⟨rfl, c2⟩
  have H2 := Lib.hid (And.intro (H1.out.1.later c2 (Nat.le_refl _)) (And.intro (H1.out.2.1.later c2 (Nat.le_refl _)) (H1.out.2.2.trans (c2.mono H1.out.2.2.size))))
  clear c2 x y
  have x : w2.cell? ⟨w.heap.size, 7, none⟩ = some (.slice su.A su.n su.c) := H2.out.1.cell 7
  have y : w2.cell? ⟨w.heap.size + 1, 7, none⟩ = some (.slice su'.A su'.n su'.c) := H2.out.2.1.cell 7
  go_wp2_with fail
  refine (same_rcs (HM.out.1.au.later H2.out.2.2 (Nat.le_refl _)) (HM.out.2.au.later H2.out.2.2 (Nat.le_refl _))).mono ?_
  rintro e w3 ⟨rfl, c3⟩
  have H3 := Lib.hid (And.intro (H2.out.1.later c3 (Nat.le_refl _)) (And.intro (H2.out.2.1.later c3 (Nat.le_refl _)) (H2.out.2.2.trans (c3.mono H2.out.2.2.size))))
  clear c3 x y
  have x : w3.cell? ⟨w.heap.size, 8, none⟩ = some (.slice se.A se.n se.c) := H3.out.1.cell 8
  have y : w3.cell? ⟨w.heap.size + 1, 8, none⟩ = some (.slice se'.A se'.n se'.c) := H3.out.2.1.cell 8
  go_wp2_with fail
  refine (same_rcs (HM.out.1.ex.later H3.out.2.2 (Nat.le_refl _)) (HM.out.2.ex.later H3.out.2.2 (Nat.le_refl _))).mono ?_
  rintro e w4 ⟨rfl, c4⟩
  have H4 := Lib.hid (And.intro (H3.out.1.later c4 (Nat.le_refl _)) (And.intro (H3.out.2.1.later c4 (Nat.le_refl _)) (H3.out.2.2.trans (c4.mono H3.out.2.2.size))))
  clear c4 x y
  go_wp2_with fail
  go_ret
  exact ⟨rfl, H4.out.2.2⟩
  -->>
end Go.Proofs.YtbikifaadpijnaaGreatDoor
