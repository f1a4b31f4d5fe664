/-
  Package stockadelaw18's LexerTells: true, whatever the text. Conditions: errors.errorType holds the handle of the type error.
-/
import Derived.Test.YtiggfoghogecjaaDoorRl18
import Derived.Test.YtiggfoghogecjaaDoorPq18
namespace Go.Proofs.YtiggfoghogecjaaDoor
open Go.RowKit
set_option maxRecDepth 100000

theorem told_at18 {w : World} {v : Value} {p : Nat} (h : ErrAt w v p) : Tells w v ⟨21, p, true⟩ := by
  obtain ⟨g, rfl, hg⟩ := h
  have c0 : w.cell? ⟨g, 0, none⟩ = some (.int .i64 p) := by rw [cell_of_row w g 0 _ _ _ hg]; rfl
  have c1 : w.cell? ⟨g, 1, none⟩ = some (.iface 28 (.int .i64 21)) := by rw [cell_of_row w g 1 _ _ _ hg]; rfl
  exact .inr ⟨(show (21 : Int) ≠ 0 by decide), 1, [(g, (p : Int))], .fault 0 g p _ [] 21 hg c0 c1 (.errno 21), by simp [isFail]⟩
set_option maxHeartbeats 4000000 in
theorem lexerTells (s : ByteArray) {w : World} (hg : Handle w) : Calls Tryd.prog 3 #[.string s] w fun e w' => e = .returned (.bool true) ∧ Below w.heap.size w w' := by
  by_cases hbig : 3000 < s.size
  · have K := Lib.hid (awake18 w)
    go_enter Tryd.func3, Tryd.ntmps3
    go_wp2_with fail
    refine K.out.mono ?_
    rintro e w' ⟨rfl, hb⟩
    have HB := Lib.hid hb
    clear hb
    go_wp2_with fail
    go_ret
    exact ⟨rfl, HB.out⟩
  have K := Lib.hid (tokens18 s (by omega) w)
  have K2 := Lib.hid (fun w' => refTokens18 s (by omega) w')
  have HG := Lib.hid hg
  clear hg
  cases hlex : lexM .gap 0 1 s.data.toList with
  | inl p =>
    simp only [hlex] at K K2
    clear hlex
    go_enter Tryd.func3, Tryd.ntmps3
    go_wp2_with fail
    refine K.out.mono ?_
    rintro e w1 ⟨v, rfl, ⟨er, rfl, herr⟩, hb1⟩
    have HT := Lib.hid (And.intro (told_at18 herr) hb1)
    obtain ⟨g, rfl, _⟩ := herr
    clear hb1
    go_wp2_with fail
    refine (K2.out w1).mono ?_
    rintro e w2 ⟨v, b, rfl, rfl, hb2⟩
    have HT2 := Lib.hid (HT.out.1.later hb2 (Nat.le_refl _))
    have HB2 := Lib.hid (HT.out.2.trans (hb2.mono HT.out.2.size))
    clear hb2
    go_wp2_with (first
      | (refine wpList_alloc_fl rfl rfl ?_; intro wa f1 b1 s1; have HA := Lib.hid (And.intro f1 b1); clear f1 b1 s1)
      | (refine wpList_store_fl rfl (.tmp 6) (.tmp 20) rfl 21 (p : Int) true rfl rfl HA.out.1 ?_; intro wb f2 _ _ t2; have HF := Lib.hid (And.intro f2 (t2 _ _ (Nat.le_refl _) HA.out.2)); clear f2 t2))
    refine (awake18 _).mono ?_
    rintro e w3 ⟨rfl, hb3⟩
    have HB3 := Lib.hid (And.intro (HF.out.1.later hb3 (Nat.le_refl _)) (HF.out.2.trans (hb3.mono HF.out.2.size)))
    clear hb3
    go_wp2_with fail
    refine (plain_tk (TkS.nil _) (TkS.nil _)).mono ?_
    rintro e w4 ⟨rfl, hb4⟩
    have HB4 := Lib.hid (And.intro (HB3.out.1.later hb4 (Nat.le_refl _)) (HB3.out.2.trans (hb4.mono HB3.out.2.size)))
    clear hb4
    go_wp2_with (refine wpList_load_fl_w' (by rfl) (.tmp 6) rfl rfl HB4.out.1 ?_)
    refine (is_told3 (HT2.out.later HB4.out.2 (Nat.le_refl _)) (Handle.later (HB2.out.trans (HB4.out.2.mono HB2.out.size)) (Nat.le_refl _) HG.out)).mono ?_
    rintro e w5 ⟨rfl, hb5⟩
    have HB5 := Lib.hid (HB2.out.trans ((HB4.out.2.trans (hb5.mono HB4.out.2.size)).mono HB2.out.size))
    clear hb5
    go_wp2_with fail
    go_ret
    exact ⟨rfl, HB5.out⟩
  | inr ts =>
    simp only [hlex] at K K2
    clear hlex
    go_enter Tryd.func3, Tryd.ntmps3
    go_wp2_with fail
    refine K.out.mono ?_
    rintro e w1 ⟨v, rfl, ⟨r1, rfl, o1⟩, hb1⟩
    obtain ⟨A1, c1, rfl, h1⟩ := TkS.of_own o1
    have HT := Lib.hid (And.intro h1 hb1)
    clear hb1 o1 h1
    go_wp2_with fail
    refine (K2.out w1).mono ?_
    rintro e w2 ⟨v, b, rfl, ⟨r2, rfl, o2⟩, hb2⟩
    obtain ⟨A2, c2, rfl, h2⟩ := TkS.of_own o2
    have HT2 := Lib.hid (And.intro (HT.out.1.later hb2 (Nat.le_refl _)) h2)
    have HB2 := Lib.hid (HT.out.2.trans (hb2.mono HT.out.2.size))
    clear hb2 o2 h2
    go_wp2_with (first
      | (refine wpList_alloc_fl rfl rfl ?_; intro wa f1 b1 s1; have HA := Lib.hid (And.intro f1 b1); clear f1 b1 s1)
      | (refine wpList_store_fl rfl (.tmp 6) (.tmp 20) rfl 0 0 false rfl rfl HA.out.1 ?_; intro wb f2 _ _ t2; have HF := Lib.hid (And.intro f2 (t2 _ _ (Nat.le_refl _) HA.out.2)); clear f2 t2))
    refine (awake18 _).mono ?_
    rintro e w3 ⟨rfl, hb3⟩
    have HB3 := Lib.hid (And.intro (HF.out.1.later hb3 (Nat.le_refl _)) (HF.out.2.trans (hb3.mono HF.out.2.size)))
    clear hb3
    go_wp2_with fail
    refine (plain_tk (HT2.out.1.later HB3.out.2 (Nat.le_refl _)) (HT2.out.2.later HB3.out.2 (Nat.le_refl _))).mono ?_
    rintro e w4 ⟨rfl, hb4⟩
    have HB4 := Lib.hid (And.intro (HB3.out.1.later hb4 (Nat.le_refl _)) (HB3.out.2.trans (hb4.mono HB3.out.2.size)))
    clear hb4
    go_wp2_with (refine wpList_load_fl_w' (by rfl) (.tmp 6) rfl rfl HB4.out.1 ?_)
    refine (is_nil 0 false _).mono ?_
    rintro e w5 ⟨rfl, hb5⟩
    have HB5 := Lib.hid (HB2.out.trans ((HB4.out.2.trans (hb5.mono HB4.out.2.size)).mono HB2.out.size))
    clear hb5
    go_wp2_with fail
    go_ret
    exact ⟨rfl, HB5.out⟩
end Go.Proofs.YtiggfoghogecjaaDoor
