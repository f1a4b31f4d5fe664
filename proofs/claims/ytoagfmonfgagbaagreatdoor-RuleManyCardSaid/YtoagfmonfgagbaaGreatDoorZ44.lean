/-
  Package name's Labels; slices.ContainsFunc of texts by wrong; Right; Under. Conditions: those of the slices; a million bytes at most; what the program's text has laid (internal/bytealg.MaxLen holds an int).
-/
import Derived.Test.YtoagfmonfgagbaaGreatDoorZ43
import Derived.Test.YtoagfmonfgagbaaGreatDoorZ42
import Derived.Test.YtoagfmonfgagbaaGreatDoorZ14
import Derived.Test.YtoagfmonfgagbaaGreatDoorZ11
import Derived.Test.YtoagfmonfgagbaaGreatDoorZ02
import Derived.Test.YtoagfmonfgagbaaGreatDoorZ12
namespace Go.Proofs.YtoagfmonfgagbaaGreatDoor
open Go.RowKit
set_option maxRecDepth 100000

theorem Env.max {w : World} (h : Env w) : ∃ m, w.cell? ⟨2, 0, none⟩ = some (.int .i64 m) := h.maxLen
theorem sv_bts {xs ys : List ByteArray} (h : bts xs = bts ys) : xs = ys := by
  induction xs generalizing ys with
  | nil => cases ys with
    | nil => rfl
    | cons _ _ => cases h
  | cons x r ih =>
    cases ys with
    | nil => cases h
    | cons y t =>
      injection h with h1 h2
      rw [ih h2]
      congr 1
      cases x; cases y; simp_all
theorem bts_length (xs : List ByteArray) : (bts xs).length = xs.length := by simp [bts]
/-- Texts out of their bytes. -/
def mkSs (ls : List (List UInt8)) : List ByteArray := ls.map mkS
theorem bts_mk (ls : List (List UInt8)) : bts (mkSs ls) = ls := by
  unfold bts mkSs
  rw [List.map_map]
  conv => rhs; rw [← List.map_id ls]
  exact List.map_congr_left fun x _ => mkS_data x
theorem mk_bts (xs : List ByteArray) : mkSs (bts xs) = xs := sv_bts (bts_mk _)

/-- What Labels hands back. -/
theorem labels_any (s : ByteArray) (hs : s.size ≤ 1000000) {w : World} (hE : Env w) : Calls Tryz.prog 144 #[.string s] w fun e w' =>
    ∃ A n c, e = .returned (.slice A n c) ∧ Gs w' A n c (sv (mkSs (labsN s.data.toList))) ∧ Below w.heap.size w w' := by
  by_cases h0 : s.size = 0
  · obtain rfl := str_empty h0
    clear h0
    go_enter Tryz.func144, Tryz.ntmps144
    go_wp2_with fail
    go_ret
    exact ⟨none, 0, 0, rfl, Gs.nil _, Below.refl _ _⟩
  · have e0 : s.toList.isEmpty = false := by
      rw [← decide_eq_emptyBytes]
      exact decide_eq_false (fun h => h0 (by rw [h]; rfl))
    obtain ⟨m, hm⟩ := hE.max
    have K := Tryz.strings_Split s ⟨#[46]⟩ m w (by omega) hm (by decide)
    obtain ⟨h1, h2⟩ := split_all 46 s
    have hl : labsN s.data.toList = spl 46 s.data.toList := by
      unfold labsN
      rw [if_neg]
      intro h
      exact h0 (by rw [Lib.size_eq, h]; rfl)
    have hx : Lib.splitB ⟨#[46]⟩ 0 (Lib.countB s ⟨#[46]⟩) s = mkSs (labsN s.data.toList) := by rw [hl, ← h1, mk_bts]
    have hlen : (Lib.splitB ⟨#[46]⟩ 0 (Lib.countB s ⟨#[46]⟩) s).length = Lib.countB s ⟨#[46]⟩ + 1 := Lib.splitB_all ⟨#[46]⟩ (by decide) 0 _ s rfl
    rw [hx] at K hlen
    generalize Lib.countB s ⟨#[46]⟩ = q at K h2 hlen
    have HK := Lib.hid K
    have HL := Lib.hid hlen
    have HQ := Lib.hid h2
    clear K h1 h2 hl hx hm hlen
    go_enter Tryz.func144, Tryz.ntmps144
    go_wp2_with fail
    refine HK.out.mono ?_
    rintro e w' ⟨rfl, rfl⟩
    have hG := Gs.lit w (sv (mkSs (labsN s.data.toList))) (q + 1) (by unfold sv; rw [List.length_map, HL.out]) (by have := HQ.out; unfold maxLen; omega) ((mkSs (labsN s.data.toList)).map Value.string).toArray (by unfold sv; simp) 9
    have HG := Lib.hid (And.intro hG ((Below.refl _ w).alloc (Nat.le_refl _) (.cells ((mkSs (labsN s.data.toList)).map Value.string).toArray 9)))
    clear hG
    generalize w.alloc (.cells ((mkSs (labsN s.data.toList)).map Value.string).toArray 9) = W at HG ⊢
    go_wp2_with fail
    go_ret
    exact ⟨_, _, _, rfl, HG.out.1, HG.out.2⟩

set_option maxHeartbeats 1000000 in
theorem indexS_any {A : Option Addr} {n c : Nat} {xs : List ByteArray} {w : World} (hb : Gs w A n c (sv xs)) (hx : ∀ x ∈ xs, x.size ≤ 1000000) : Calls Tryz.prog 157 #[.slice A n c, .func (.func 145) #[] #[]] w fun e w' =>
    ∃ r : Int, e = .returned (.int .i64 r) ∧ (0 ≤ r ↔ ∃ x ∈ bts xs, ¬ labOk x) ∧ Below w.heap.size w w' := by
  have hcap := hb.cap
  have hmax := hb.max
  unfold maxLen at hmax
  have hlen : xs.length = n := by have := hb.len; unfold sv at this; rw [List.length_map] at this; exact this
  have HB := Lib.hid hb
  clear hb
  go_enter Tryz.func157, Tryz.ntmps157
  go_wp2_with fail
  go_loopw [8] (fun i wr => ∃ k : Nat, k ≤ n ∧ i = .int .i64 k ∧ (∀ (j : Nat) (x : ByteArray), j < k → xs[j]? = some x → labOk x.data.toList) ∧ Below w.heap.size w wr) (fun i _ => n - (intOf i).toNat)
  case atStart => exact ⟨0, Nat.zero_le _, rfl, fun j x h => absurd h (by omega), Below.refl _ _⟩
  case round =>
    obtain ⟨k, hk, rfl, hall, hbe⟩ := hrel
    by_cases hlt : k < n
    · obtain ⟨x, hxk⟩ : ∃ x, xs[k]? = some x := ⟨xs[k]'(by omega), List.getElem?_eq_getElem _⟩
      obtain ⟨b, o, rfl, h1⟩ := (HB.out.later hbe (Nat.le_refl _)).get (k := k) (x := .string x) (by unfold sv; rw [List.getElem?_map, hxk]; rfl)
      have K := Lib.hid (wrong_any x (hx x (List.mem_of_getElem? hxk)) wr)
      have HX := Lib.hid (And.intro hxk (And.intro hall hbe))
      clear hxk hall hbe
      by_cases hs : labOk x.data.toList
      · rw [decide_eq_false (show ¬ ¬ labOk x.data.toList from fun h => h hs)] at K
        have HS := Lib.hid hs
        clear hs
        go_wp2_with fail
        refine K.out.mono ?_
        rintro e w' ⟨rfl, hw⟩
        have HW := Lib.hid (HX.out.2.2.trans (hw.mono HX.out.2.2.size))
        clear hw
        go_wp2_with fail
        refine ⟨⟨k + 1, hlt, by go_num, fun j y hj hy => ?_, HW.out⟩, by simp [intOf]; omega⟩
        by_cases hjk : j = k
        · subst hjk
          rw [HX.out.1] at hy
          obtain rfl := Option.some.inj hy
          exact HS.out
        · exact HX.out.2.1 j y (by omega) hy
      · rw [decide_eq_true hs] at K
        have HS := Lib.hid hs
        clear hs
        go_wp2_with fail
        refine K.out.mono ?_
        rintro e w' ⟨rfl, hw⟩
        have HW := Lib.hid (HX.out.2.2.trans (hw.mono HX.out.2.2.size))
        clear hw
        go_wp2_with fail
        go_ret
        exact ⟨k, rfl, ⟨fun _ => ⟨x.data.toList, List.mem_map.2 ⟨x, List.mem_of_getElem? HX.out.1, rfl⟩, HS.out⟩, fun _ => by omega⟩, HW.out⟩
    · obtain rfl : k = n := by omega
      have HX := Lib.hid (And.intro hall hbe)
      clear hall hbe
      go_wp2_with fail
      go_ret
      refine ⟨-1, rfl, ⟨fun h => absurd h (by decide), ?_⟩, HX.out.2⟩
      rintro ⟨x, hm, hs⟩
      obtain ⟨y, hy, rfl⟩ := List.mem_map.1 hm
      obtain ⟨j, hj⟩ := List.mem_iff_getElem?.1 hy
      exact absurd (HX.out.1 j y (by have := (List.getElem?_eq_some_iff.1 hj).1; omega) hj) hs
theorem contS_any {A : Option Addr} {n c : Nat} {xs : List ByteArray} {w : World} (hb : Gs w A n c (sv xs)) (hx : ∀ x ∈ xs, x.size ≤ 1000000) : Calls Tryz.prog 143 #[.slice A n c, .func (.func 145) #[] #[]] w fun e w' =>
    ∃ d, e = .returned (.bool d) ∧ (d = true ↔ ∃ x ∈ bts xs, ¬ labOk x) ∧ Below w.heap.size w w' := by
  have K := Lib.hid (indexS_any hb hx)
  clear hb
  go_enter Tryz.func143, Tryz.ntmps143
  go_wp2_with fail
  refine K.out.mono ?_
  rintro e w' ⟨r, rfl, hr, hw⟩
  have HW := Lib.hid (And.intro hr hw)
  clear hr hw
  go_wp2_with fail
  go_ret
  exact ⟨_, rfl, decide_eq_true_iff.trans HW.out.1, HW.out.2⟩
theorem right_iff (l : List UInt8) : rightN l ↔ l.length + 2 ≤ 255 ∧ ¬ ∃ x ∈ labsN l, ¬ labOk x := by
  unfold rightN
  have h : (∀ x ∈ labsN l, labOk x) ↔ ¬ ∃ x ∈ labsN l, ¬ labOk x := ⟨fun h ⟨x, hx, hn⟩ => hn (h x hx), fun h x hx => Decidable.byContradiction fun hn => h ⟨x, hx, hn⟩⟩
  rw [h]
  by_cases h0 : l = []
  · subst h0
    simp [labsN, sizeL]
  · rw [sizeL_labsN h0]
    constructor
    · rintro ⟨h1, h2⟩; exact ⟨by omega, h1⟩
    · rintro ⟨h1, h2⟩; exact ⟨h2, by omega⟩
theorem labsN_le (l : List UInt8) : ∀ x ∈ labsN l, x.length ≤ l.length := fun x hx => by
  unfold labsN at hx
  split at hx
  · cases hx
  · exact splN_mem_len 46 l _ x hx
theorem mkSs_size {l : List UInt8} : ∀ x ∈ mkSs (labsN l), x.size ≤ l.length := fun x hx => by
  obtain ⟨y, hy, rfl⟩ := List.mem_map.1 hx
  rw [mkS_size]
  exact labsN_le l y hy
theorem right_any (s : ByteArray) (hs : s.size ≤ 1000000) {w : World} (hE : Env w) : Calls Tryz.prog 125 #[.string s] w fun e w' => e = .returned (.bool (decide (rightN s.data.toList))) ∧ Below w.heap.size w w' := by
  have hsz : s.data.toList.length = s.size := (Lib.size_eq s).symm
  have hr := right_iff s.data.toList
  rw [hsz] at hr
  by_cases h : s.size + 2 ≤ 255
  · have e1 : ∀ d : Bool, (d = true ↔ ∃ x ∈ labsN s.data.toList, ¬ labOk x) → decide (rightN s.data.toList) = !d := fun d hd => by
      cases d with
      | true => exact decide_eq_false (fun h' => (hr.1 h').2 (hd.1 rfl))
      | false => exact decide_eq_true (hr.2 ⟨h, fun h' => by have := hd.2 h'; cases this⟩)
    have K := Lib.hid (labels_any s hs hE)
    have HZ := Lib.hid hsz
    have HR := Lib.hid e1
    clear hr hE e1 hsz
    go_enter Tryz.func125, Tryz.ntmps125
    go_wp2_with fail
    refine K.out.mono ?_
    rintro e w1 ⟨A, n, c, rfl, hG, hW⟩
    have K2 := contS_any hG (fun x hx => by have := mkSs_size x hx; rw [HZ.out] at this; omega)
    rw [bts_mk] at K2
    have H1 := Lib.hid (And.intro K2 hW)
    clear hG hW K2
    go_wp2_with fail
    refine H1.out.1.mono ?_
    rintro e w2 ⟨d, rfl, hd, hW⟩
    have hd' := HR.out d hd
    have H2 := Lib.hid (H1.out.2.trans (hW.mono H1.out.2.size))
    have H3 := Lib.hid hd'
    clear hW hd hd'
    go_wp2_with fail
    go_ret
    rw [H3.out]
    exact ⟨rfl, H2.out⟩
  · rw [decide_eq_false (show ¬ rightN s.data.toList from fun h' => h (hr.1 h').1)]
    clear hr hE hsz
    go_enter Tryz.func125, Tryz.ntmps125
    go_wp2_with fail
    go_ret
    exact ⟨rfl, Below.refl _ _⟩
end Go.Proofs.YtoagfmonfgagbaaGreatDoor
