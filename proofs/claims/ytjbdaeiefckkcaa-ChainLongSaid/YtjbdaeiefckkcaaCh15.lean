/-
  Package chain's tells, has; slices.IndexFunc of records by what leads on; slices.Contains of texts. Conditions: those of the slices.
-/
import Derived.Test.YtjbdaeiefckkcaaRk15
import Derived.Lib.ConvBytes
import Derived.Lib.Strings
namespace Go.Proofs.Ytjbdaeiefckkcaa
open Go.RowKit
set_option maxRecDepth 100000

theorem str_dec (x y : ByteArray) : (x.toList == y.toList) = decide (x = y) := by
  rw [Lib.toList_data, Lib.toList_data]
  by_cases h : x = y
  · subst h; rw [decide_eq_true rfl]; exact beq_self_eq_true _
  · rw [decide_eq_false h]
    cases hb : (x.data.toList == y.data.toList) with
    | false => rfl
    | true =>
      rw [beq_iff_eq] at hb
      exact absurd (by cases x; cases y; simp_all) h
/-- What a record tells of its name. -/
def tellv (r : Rk) : Int := if r.cls = 1 then (if r.kind = 5 then 1 else if r.kind = 28 then 2 else if r.kind = 1 then 2 else 0) else 0
def leads (r : Rk) (s : ByteArray) : Bool := decide (r.name = s) && decide (r.cls = 1 ∧ r.kind = 5)
def says (r : Rk) (s : ByteArray) : Bool := decide (r.name = s) && decide (r.cls = 1 ∧ (r.kind = 1 ∨ r.kind = 28))
theorem tell_one (r : Rk) : (tellv r == 1) = decide (r.cls = 1 ∧ r.kind = 5) := by
  unfold tellv
  by_cases h1 : r.cls = 1
  · by_cases h5 : r.kind = 5
    · simp [h1, h5]
    · by_cases h28 : r.kind = 28
      · simp [h1, h28]
      · by_cases h0 : r.kind = 1 <;> simp [h1, h5, h28, h0]
  · simp [h1]
theorem tell_two (r : Rk) : (tellv r == 2) = decide (r.cls = 1 ∧ (r.kind = 1 ∨ r.kind = 28)) := by
  unfold tellv
  by_cases h1 : r.cls = 1
  · by_cases h5 : r.kind = 5
    · simp [h1, h5]
    · by_cases h28 : r.kind = 28
      · simp [h1, h28]
      · by_cases h0 : r.kind = 1 <;> simp [h1, h5, h28, h0]
  · simp [h1]
--<< tells
set_option maxHeartbeats 1000000 in
theorem tells_any {r : Rk} (hk : r.ok) (w : World) : Calls Try.prog 16 #[.agg (rkv r)] w fun e w' => e = .returned (.int .i64 (tellv r)) ∧ Below w.heap.size w w' := by
  have a1 := RkBox.new w hk
  have b1 : Below w.heap.size w (w.alloc (.cells (rkv r) 32)) := (Below.refl _ _).alloc (Nat.le_refl _) _
  obtain ⟨W, hW⟩ : ∃ W, w.alloc (.cells (rkv r) 32) = W := ⟨_, rfl⟩
  rw [hW] at a1 b1
  have e1 := a1.kind
  have e2 := a1.cls
  have HA := Lib.hid (And.intro a1 b1)
  have HW := Lib.hid hW
  clear a1 b1 hW hk
  obtain ⟨name, kind, cls, ttl, v6, adr, target, dat⟩ := r
  unfold tellv
  dsimp only at e1 e2 ⊢
  by_cases h1 : cls = 1
  · rw [if_pos h1]
    rw [h1] at e2
    clear h1
    by_cases h5 : kind = 5
    · rw [if_pos h5]
      rw [h5] at e1
      clear h5
      go_enter Try.func16, Try.ntmps16
      go_wp2_with (rw [HW.out])
      go_ret
      exact ⟨rfl, HA.out.2⟩
    · rw [if_neg h5]
      by_cases h28 : kind = 28
      · rw [if_pos h28]
        rw [h28] at e1
        clear h28 h5
        go_enter Try.func16, Try.ntmps16
        go_wp2_with (rw [HW.out])
        go_ret
        exact ⟨rfl, HA.out.2⟩
      · rw [if_neg h28]
        by_cases h0 : kind = 1
        · rw [if_pos h0]
          rw [h0] at e1
          clear h0 h28 h5
          go_enter Try.func16, Try.ntmps16
          go_wp2_with (rw [HW.out])
          go_ret
          exact ⟨rfl, HA.out.2⟩
        · rw [if_neg h0]
          go_enter Try.func16, Try.ntmps16
          go_wp2_with (rw [HW.out])
          go_ret
          exact ⟨rfl, HA.out.2⟩
  · rw [if_neg h1]
    go_enter Try.func16, Try.ntmps16
    go_wp2_with (rw [HW.out])
    go_ret
    exact ⟨rfl, HA.out.2⟩
-->>
--<< leads
set_option maxHeartbeats 1000000 in
theorem leads_any {r : Rk} (hk : r.ok) {g : Nat} {s : ByteArray} {w : World} (hg : w.cell? ⟨g, 0, none⟩ = some (.string s)) : Calls Try.prog 15 #[.agg (rkv r), .pointer (some ⟨g, 0, none⟩)] w fun e w' => e = .returned (.bool (leads r s)) ∧ Below w.heap.size w w' := by
  have a1 := RkBox.new w hk
  have b1 : Below w.heap.size w (w.alloc (.cells (rkv r) 32)) := (Below.refl _ _).alloc (Nat.le_refl _) _
  obtain ⟨W, hW⟩ : ∃ W, w.alloc (.cells (rkv r) 32) = W := ⟨_, rfl⟩
  rw [hW] at a1 b1
  have e0 := a1.name
  have hlt : g < w.heap.size := lt_of_cell' hg
  have e1 : W.cell? ⟨g, 0, none⟩ = some (.string s) := (b1.cell (p := ⟨g, 0, none⟩) hlt).trans hg
  have hr := a1.range
  have hd := str_dec r.name s
  have ht := tell_one r
  have K := Lib.hid (tells_any hk W)
  have HA := Lib.hid (And.intro a1 b1)
  have HW := Lib.hid hW
  have HK := Lib.hid hk
  have HR := Lib.hid hr
  clear a1 b1 hW hk hr hg
  unfold leads
  by_cases h1 : r.name = s
  · rw [decide_eq_true h1] at hd ⊢
    rw [← ht]
    have HT := Lib.hid ht
    clear h1 ht
    go_enter Try.func15, Try.ntmps15
    go_wp2_with (first
      | (refine wpList_wantd (by rfl) (wp_load_rk (.tmp 2) rfl rfl HK.out HR.out ?_))
      | (rw [HW.out]))
    refine K.out.mono ?_
    rintro e w' ⟨rfl, hb⟩
    have HB := Lib.hid (HA.out.2.trans (hb.mono HA.out.2.size))
    clear hb
    go_wp2_with fail
    go_ret
    exact ⟨rfl, HB.out⟩
  · rw [decide_eq_false h1] at hd ⊢
    clear h1 ht
    go_enter Try.func15, Try.ntmps15
    go_wp2_with (first
      | (rw [HW.out]))
    go_ret
    exact ⟨rfl, HA.out.2⟩
-->>
theorem find_at {p : Rk → Bool} : ∀ {xs : List Rk} {k : Nat} {x : Rk}, xs[k]? = some x → p x = true → (∀ (j : Nat) (y : Rk), j < k → xs[j]? = some y → p y = false) → xs.find? p = some x
  | [], k, x, hx, _, _ => by simp at hx
  | a :: t, 0, x, hx, hp, _ => by
    simp at hx
    subst hx
    simp [List.find?, hp]
  | a :: t, k + 1, x, hx, hp, hn => by
    have h0 := hn 0 a (by omega) rfl
    simp only [List.find?, h0]
    exact find_at (by simpa using hx) hp (fun j y hj hy => hn (j + 1) y (by omega) (by simpa using hy))
theorem find_no {p : Rk → Bool} {xs : List Rk} {n : Nat} (hl : xs.length = n) (hn : ∀ (j : Nat) (y : Rk), j < n → xs[j]? = some y → p y = false) : xs.find? p = none := by
  rw [List.find?_eq_none]
  intro x hx
  obtain ⟨j, hj⟩ := List.mem_iff_getElem?.1 hx
  rw [hn j x (by have := (List.getElem?_eq_some_iff.1 hj).1; omega) hj]
  simp
--<< index
set_option maxHeartbeats 2000000 in
theorem index_any {A : Option Addr} {n c : Nat} {xs : List Rk} {w : World} (hb : Rks w A n c xs) {g : Nat} {s : ByteArray} (hg : w.cell? ⟨g, 0, none⟩ = some (.string s)) : Calls Try.prog 14 #[.slice A n c, .func (.func 15) #[] #[.pointer (some ⟨g, 0, none⟩)]] w fun e w' =>
    ∃ r : Int, e = .returned (.int .i64 r) ∧ ((xs.find? (fun x => leads x s) = none ∧ r = -1) ∨ ∃ (k : Nat) (x : Rk), r = k ∧ k < n ∧ xs[k]? = some x ∧ xs.find? (fun x => leads x s) = some x) ∧ Below w.heap.size w w' := by
  have hcap := hb.cap
  have hmax := hb.max
  unfold maxLen at hmax
  have hlen := hb.len
  have hlt : g < w.heap.size := lt_of_cell' hg
  have HB := Lib.hid (And.intro hb hg)
  clear hb hg
  go_enter Try.func14, Try.ntmps14
  go_wp2_with fail
  go_loopw [8] (fun i wr => ∃ k : Nat, k ≤ n ∧ i = .int .i64 k ∧ (∀ (j : Nat) (x : Rk), j < k → xs[j]? = some x → leads x s = false) ∧ Below w.heap.size w wr) (fun i _ => n - (intOf i).toNat)
  case atStart => exact ⟨0, Nat.zero_le _, rfl, fun j x h => absurd h (by omega), Below.refl _ _⟩
  case round =>
    obtain ⟨k, hk, rfl, hall, hbe⟩ := hrel
    by_cases hkn : k < n
    · obtain ⟨x, hxk⟩ : ∃ x, xs[k]? = some x := ⟨xs[k]'(by omega), List.getElem?_eq_getElem _⟩
      obtain ⟨b, off, rfl, hr⟩ := (HB.out.1.later hbe (Nat.le_refl _)).here k x hxk
      have hok := HB.out.1.ok x (List.mem_of_getElem? hxk)
      have K := Lib.hid (leads_any hok ((hbe.cell (p := ⟨g, 0, none⟩) hlt).trans HB.out.2))
      have HX := Lib.hid (And.intro hxk (And.intro hall hbe))
      have HR := Lib.hid (And.intro hr hok)
      clear hxk hall hbe hr hok
      cases hs : leads x s with
      | false =>
        have HS := Lib.hid hs
        rw [hs] at K
        clear hs
        go_wp2_with (refine wpList_load_rk rfl (.tmp 14) rfl rfl HR.out.2 HR.out.1 ?_)
        refine K.out.mono ?_
        rintro e w' ⟨rfl, hw⟩
        have HW := Lib.hid (HX.out.2.2.trans (hw.mono HX.out.2.2.size))
        clear hw
        go_wp2_with fail
        refine ⟨⟨k + 1, hkn, by go_num, fun j y hj hy => ?_, HW.out⟩, by simp [intOf]; omega⟩
        by_cases hjk : j = k
        · subst hjk
          rw [HX.out.1] at hy
          obtain rfl := Option.some.inj hy
          exact HS.out
        · exact HX.out.2.1 j y (by omega) hy
      | true =>
        have HS := Lib.hid hs
        rw [hs] at K
        clear hs
        go_wp2_with (refine wpList_load_rk rfl (.tmp 14) rfl rfl HR.out.2 HR.out.1 ?_)
        refine K.out.mono ?_
        rintro e w' ⟨rfl, hw⟩
        have HW := Lib.hid (HX.out.2.2.trans (hw.mono HX.out.2.2.size))
        clear hw
        go_wp2_with fail
        go_ret
        exact ⟨k, rfl, .inr ⟨k, x, rfl, hkn, HX.out.1, find_at HX.out.1 HS.out HX.out.2.1⟩, HW.out⟩
    · obtain rfl : k = n := by omega
      have HX := Lib.hid (And.intro hall hbe)
      clear hall hbe
      go_wp2_with fail
      go_ret
      exact ⟨-1, rfl, .inl ⟨find_no hlen HX.out.1, rfl⟩, HX.out.2⟩
-->>
/-- Is a text among some? -/
def inb (s : ByteArray) (xs : List ByteArray) : Bool := xs.any fun x => decide (s = x)
--<< contains
set_option maxHeartbeats 1000000 in
theorem indexT_any {A : Option Addr} {n c : Nat} {xs : List ByteArray} {w : World} (hb : Gs w A n c (sv xs)) (s : ByteArray) : Calls Try.prog 21 #[.slice A n c, .string s] w fun e w' =>
    ∃ r : Int, e = .returned (.int .i64 r) ∧ decide (0 ≤ r) = inb s xs ∧ w = w' := by
  have hcap := hb.cap
  have hmax := hb.max
  unfold maxLen at hmax
  have hlen : xs.length = n := by have := hb.len; unfold sv at this; rw [List.length_map] at this; exact this
  have HB := Lib.hid hb
  clear hb
  go_enter Try.func21, Try.ntmps21
  go_wp2_with fail
  go_loop [8] (fun i => ∃ k : Nat, k ≤ n ∧ i = .int .i64 k ∧ ∀ (j : Nat) (x : ByteArray), j < k → xs[j]? = some x → s ≠ x) (fun i => n - (intOf i).toNat)
  case atStart => exact ⟨0, Nat.zero_le _, rfl, fun j x h => absurd h (by omega)⟩
  case round =>
    obtain ⟨k, hk, rfl, hall⟩ := hrel
    by_cases hlt : k < n
    · obtain ⟨x, hx⟩ : ∃ x, xs[k]? = some x := ⟨xs[k]'(by omega), List.getElem?_eq_getElem _⟩
      obtain ⟨b, o, rfl, h1⟩ := HB.out.get (k := k) (x := .string x) (sv_at hx)
      have hd := str_dec s x
      have HX := Lib.hid (And.intro hx hall)
      clear hx hall
      by_cases hs : s = x
      · rw [decide_eq_true hs] at hd
        have HS := Lib.hid hs
        clear hs
        go_wp2_with fail
        go_ret
        refine ⟨_, rfl, ?_, rfl⟩
        rw [decide_eq_true (show (0 : Int) ≤ (k : Int) by omega)]
        exact (List.any_eq_true.2 ⟨x, List.mem_of_getElem? HX.out.1, decide_eq_true HS.out⟩).symm
      · rw [decide_eq_false hs] at hd
        have HS := Lib.hid hs
        clear hs
        go_wp2_with fail
        go_round
        case rel =>
          refine ⟨k + 1, hlt, by go_num, fun j y hj hy => ?_⟩
          by_cases hjk : j = k
          · subst hjk
            rw [HX.out.1] at hy
            obtain rfl := Option.some.inj hy
            exact HS.out
          · exact HX.out.2 j y (by omega) hy
        case measure => simp [intOf]; omega
    · obtain rfl : k = n := by omega
      have HX := Lib.hid hall
      clear hall
      go_wp2_with fail
      go_ret
      refine ⟨-1, rfl, ?_, rfl⟩
      rw [decide_eq_false (by decide)]
      refine (List.any_eq_false.2 fun x hm => ?_).symm
      obtain ⟨j, hj⟩ := List.mem_iff_getElem?.1 hm
      rw [decide_eq_false (HX.out j x (by have := (List.getElem?_eq_some_iff.1 hj).1; omega) hj)]
      decide
theorem contT_any {A : Option Addr} {n c : Nat} {xs : List ByteArray} {w : World} (hb : Gs w A n c (sv xs)) (s : ByteArray) : Calls Try.prog 17 #[.slice A n c, .string s] w fun e w' =>
    e = .returned (.bool (inb s xs)) ∧ w = w' := by
  have K := Lib.hid (indexT_any hb s)
  clear hb
  generalize inb s xs = d at K ⊢
  go_enter Try.func17, Try.ntmps17
  go_wp2_with fail
  refine K.out.mono ?_
  rintro e w' ⟨r, rfl, hr, rfl⟩
  subst hr
  go_wp2_with fail
  go_ret
  exact ⟨rfl, rfl⟩
-->>
end Go.Proofs.Ytjbdaeiefckkcaa
