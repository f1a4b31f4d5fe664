/-
  stockaderef01: Split: what is between some signs. Conditions: the text's length.
  stockaderef01: four: an address of version 4, as the document's own answers read it. Conditions: the text's length.
  stockaderef01: groups: the document's own answers. Conditions: the text's length.
  stockaderef01: hex: a group's digits. Conditions: the number has room in two bytes.
  stockaderef01: TextAddr, TextNet: the document's own answers on addresses and nets as texts. No conditions.
  stockaderef01: TextNet: the document's own answers on nets as texts. No conditions.
-/
import Derived.Test.YtdbbgjbgmfeljaaGreatDoorZ29
import Derived.Test.YtdbbgjbgmfeljaaGreatDoorZ25
import Derived.Test.YtdbbgjbgmfeljaaGreatDoorZ08
import Derived.Test.YtdbbgjbgmfeljaaGreatDoorZ28
import Derived.Test.YtdbbgjbgmfeljaaGreatDoorZ07
import Derived.IntWalk
import Derived.Test.YtdbbgjbgmfeljaaGreatDoorZ30
import Derived.Test.YtdbbgjbgmfeljaaGreatDoorZ16
namespace Go.Proofs.YtdbbgjbgmfeljaaGreatDoor
open Go.RowKit
set_option maxRecDepth 100000

theorem sp_plain (c : UInt8) : ∀ (x : List UInt8) (k : Nat), c ∉ x → splN c x k = [x]
  | x, 0, _ => splN_zero c x
  | [], k + 1, _ => rfl
  | b :: x, k + 1, h => by
    unfold splN
    rw [if_neg (by rintro rfl; exact h (by simp)), sp_plain c x (k + 1) (fun hm => h (List.mem_cons_of_mem _ hm))]
    rfl
theorem sp_cons (c : UInt8) : ∀ (x r : List UInt8) (k : Nat), c ∉ x → splN c (x ++ c :: r) (k + 1) = x :: splN c r k
  | [], r, k, _ => by show (if c = c then [] :: splN c r k else onHead c (splN c r (k + 1))) = _; rw [if_pos rfl]
  | b :: x, r, k, h => by
    show (if b = c then [] :: splN c (x ++ c :: r) k else onHead b (splN c (x ++ c :: r) (k + 1))) = _
    rw [if_neg (by rintro rfl; exact h (by simp)), sp_cons c x r k (fun hm => h (List.mem_cons_of_mem _ hm))]
    rfl
/-- All that is between a sign. -/
def spl (c : UInt8) (l : List UInt8) : List (List UInt8) := splN c l l.length
def bts (xs : List ByteArray) : List (List UInt8) := xs.map fun x => x.data.toList
theorem bts_snoc (xs : List ByteArray) (x : ByteArray) : bts (xs ++ [x]) = bts xs ++ [x.data.toList] := by unfold bts; rw [List.map_append]; rfl
theorem cut_piece (s : ByteArray) (f j : Nat) : (s.extract f j).data.toList = (s.data.toList.drop f).take (j - f) := by
  rw [ByteArray.data_extract, Array.toList_extract, List.extract_eq_take_drop]
theorem no_piece {l : List UInt8} {c : UInt8} {f j : Nat} (h : ∀ k, f ≤ k → k < j → l[k]? ≠ some c) : c ∉ (l.drop f).take (j - f) := fun hm => by
  obtain ⟨i, hi⟩ := List.mem_iff_getElem?.1 hm
  rw [List.getElem?_take] at hi
  split at hi
  · rw [List.getElem?_drop] at hi
    exact h (f + i) (by omega) (by omega) hi
  · cases hi
theorem split_at {l : List UInt8} {c : UInt8} {f j : Nat} (hf : f ≤ j) (hc : l[j]? = some c) : l.drop f = (l.drop f).take (j - f) ++ c :: l.drop (j + 1) := by
  conv => lhs; rw [← List.take_append_drop (j - f) (l.drop f)]
  rw [List.drop_drop, show f + (j - f) = j by omega, drop_at hc]
theorem spl_step {l : List UInt8} {c : UInt8} {f j : Nat} (hf : f ≤ j) (hc : l[j]? = some c) (h : ∀ k, f ≤ k → k < j → l[k]? ≠ some c) : splN c (l.drop f) l.length = (l.drop f).take (j - f) :: splN c (l.drop (j + 1)) l.length := by
  have hlt := (List.getElem?_eq_some_iff.1 hc).1
  obtain ⟨K, hK⟩ : ∃ K, l.length = K + 1 := ⟨l.length - 1, by omega⟩
  conv => lhs; rw [split_at hf hc, hK]
  rw [sp_cons c _ _ K (no_piece h), splN_ge c (l.drop (j + 1)) K l.length (by rw [List.length_drop]; omega) (by rw [List.length_drop]; omega)]

set_option maxHeartbeats 4000000 in
theorem refSplit_any (s : ByteArray) (hs : s.size ≤ 1000) (c : UInt8) (w : World) : Calls Tryz.prog 28 #[.string s, .int .u8 c.toNat] w fun e w' => ∃ v xs, e = .returned v ∧ w'.ownsRow w.heap.size 9 1 v xs.length (sv xs) ∧ bts xs = spl c s.data.toList ∧ Below w.heap.size w w' := by
  have HL := Lib.hid (Lib.size_eq s).symm
  unfold spl
  go_enter Tryz.func28, Tryz.ntmps28
  go_wp2_with fail
  go_loopw [5, 6, 7] (fun l f i wr => ∃ (done_ : List ByteArray) (a j : Nat), a ≤ j ∧ j ≤ s.size ∧ i = .int .i64 j ∧ f = .int .i64 a ∧ wr.ownsRow w.heap.size 9 1 l done_.length (sv done_) ∧ Below w.heap.size w wr ∧ done_.length ≤ j ∧ Hid (splN c s.data.toList s.data.toList.length = bts done_ ++ splN c (s.data.toList.drop a) s.data.toList.length ∧ ∀ k, a ≤ k → k < j → s.data.toList[k]? ≠ some c)) (fun _ _ i _ => s.size - (intOf i).toNat)
  case atStart => exact ⟨[], 0, 0, Nat.le_refl _, Nat.zero_le _, rfl, rfl, World.ownsRow_nil _ _ _ _, Below.refl _ _, Nat.le_refl _, Lib.hid ⟨rfl, fun k h1 h2 => by omega⟩⟩
  case round =>
    obtain ⟨dn, a, j, haj, hj, rfl, rfl, ho, hb, hdl, hh⟩ := hrel
    have hsz := hb.size
    have HO := Lib.hid (And.intro ho hb)
    clear ho hb
    by_cases hlt : j < s.size
    · obtain ⟨x, hx, hsk⟩ := str_at (s := s) (i := j) hlt
      by_cases hxc : x = c
      · subst hxc
        have hst := spl_step haj hx hh.out.2
        have HST := Lib.hid (And.intro hst hx)
        clear hst hx
        go_wp2_with (at_builtin; refine wpList_append_gs rfl (.tmp 19) (.tmp 24) 56 rfl w.heap.size 9 infoStr rfl (by omega) Tryz.underlying56 _ _ _ rfl (HO.out.1.alloc _) _ 1 1 _ rfl (by exact Gs.lit _ [.string (s.extract a j)] 1 rfl (by unfold maxLen; omega) _ rfl _) (sv_one [s.extract a j]) (by omega) (by simp; omega) ?_; intro v2 w2 o2 g2)
        have hb2 : Below w.heap.size w w2 := (HO.out.2.alloc hsz _).grown g2 (by simp; omega) (fun q hq => (HO.out.1.lt q hq).1)
        have o3 : w2.ownsRow w.heap.size 9 1 v2 (dn ++ [s.extract a j]).length (sv (dn ++ [s.extract a j])) := by
          rw [List.length_append, sv_append]
          exact o2
        refine ⟨⟨dn ++ [s.extract a j], j + 1, j + 1, Nat.le_refl _, hlt, by go_num, by go_num, o3, hb2, by rw [List.length_append]; simp; omega, Lib.hid ⟨?_, fun k h1 h2 => by omega⟩⟩, by simp [intOf]; omega⟩
        rw [hh.out.1, HST.out.1, bts_snoc, cut_piece, List.append_assoc]
        rfl
      · have HX := Lib.hid (And.intro hx hxc)
        have hne : ((x.toNat : Int) == (c.toNat : Int)) = false := by
          rw [beq_eq_false_iff_ne]
          intro e
          exact hxc (UInt8.toNat_inj.1 (by omega))
        clear hx hxc
        go_wp2_with fail
        refine ⟨⟨dn, a, j + 1, by omega, hlt, by go_num, rfl, HO.out.1, HO.out.2, by omega, Lib.hid ⟨hh.out.1, fun k h1 h2 => ?_⟩⟩, by simp [intOf]; omega⟩
        by_cases hk : k = j
        · subst hk
          rw [HX.out.1]
          exact fun e => HX.out.2 (Option.some.inj e)
        · exact hh.out.2 k h1 (by omega)
    · obtain rfl : j = s.size := by omega
      have hlast : splN c (s.data.toList.drop a) s.data.toList.length = [s.data.toList.drop a] := by
        apply sp_plain
        have := no_piece hh.out.2
        rw [List.take_of_length_le (by rw [List.length_drop, HL.out]; omega)] at this
        exact this
      have HLA := Lib.hid hlast
      clear hlast
      go_wp2_with (at_builtin; refine wpList_append_gs rfl (.tmp 28) (.tmp 32) 56 rfl w.heap.size 9 infoStr rfl (by omega) Tryz.underlying56 _ _ _ rfl (HO.out.1.alloc _) _ 1 1 _ rfl (by exact Gs.lit _ [.string (s.extract a s.size)] 1 rfl (by unfold maxLen; omega) _ rfl _) (sv_one [s.extract a s.size]) (by omega) (by simp; omega) ?_; intro v2 w2 o2 g2)
      have hb2 : Below w.heap.size w w2 := (HO.out.2.alloc hsz _).grown g2 (by simp; omega) (fun q hq => (HO.out.1.lt q hq).1)
      have o3 : w2.ownsRow w.heap.size 9 1 v2 (dn ++ [s.extract a s.size]).length (sv (dn ++ [s.extract a s.size])) := by
        rw [List.length_append, sv_append]
        exact o2
      go_ret
      refine ⟨v2, _, rfl, o3, ?_, hb2⟩
      rw [hh.out.1, HLA.out, bts_snoc, cut_piece, List.take_of_length_le (by rw [List.length_drop, HL.out]; omega)]
end Go.Proofs.YtdbbgjbgmfeljaaGreatDoor

namespace Go.Proofs.YtdbbgjbgmfeljaaGreatDoor
open Go.RowKit
set_option maxRecDepth 100000

/-- An address of version 4: four parts, each a number of one byte. -/
def r4 (l : List UInt8) : Option (List UInt8) := if (spl 46 l).length = 4 then (allv octetv (spl 46 l)).map ab4 else none
/-- What such a call answers: the address, or none. -/
def R4 (v6 : Bool) (r : Option (List UInt8)) (w : World) (e : Ending) (w' : World) : Prop :=
  Below w.heap.size w w' ∧ match r with
    | some bs => bs.length = 16 ∧ e = .returned (.tuple #[.agg (adv v6 bs), .bool true])
    | none => e = .returned (.tuple #[.agg (adv false (List.replicate 16 0)), .bool false])
theorem allv_none {rd : List UInt8 → Option Nat} : ∀ {ls : List (List UInt8)} {k : Nat} {x : List UInt8}, ls[k]? = some x → rd x = none → allv rd ls = none
  | [], k, x, h, _ => by simp at h
  | y :: ls, 0, x, h, hx => by
    obtain rfl : y = x := by simpa using h
    unfold allv; rw [hx]; rfl
  | y :: ls, k + 1, x, h, hx => by
    have ih := allv_none (ls := ls) (k := k) (by simpa using h) hx
    unfold allv
    rw [ih]
    cases rd y <;> rfl
theorem allv_snoc {rd : List UInt8 → Option Nat} {ls : List (List UInt8)} {k : Nat} {x : List UInt8} {ns : List Nat} {n : Nat} (h : ls[k]? = some x) (hn : allv rd (ls.take k) = some ns) (hx : rd x = some n) : allv rd (ls.take (k + 1)) = some (ns ++ [n]) := by
  rw [List.take_add_one, h, allv_append, hn]
  show (some ns).bind (fun a => (allv rd [x]).map fun b => a ++ b) = _
  unfold allv
  rw [hx]
  rfl
theorem ab4_snoc {ns : List Nat} {n : Nat} (h : ns.length < 16) : (ab4 ns).set ns.length (UInt8.ofNat n) = ab4 (ns ++ [n]) := by
  have h1 := ab4_set (ns := ns ++ [n]) (k := ns.length) (n := n) (by simp) (by simp; omega)
  rw [List.take_left, List.take_of_length_le (by simp)] at h1
  exact h1
theorem ab4_len {ns : List Nat} (h : ns.length ≤ 16) : (ab4 ns).length = 16 := by simp [ab4]; omega
theorem bts_at {xs : List ByteArray} {k : Nat} {x : ByteArray} (h : xs[k]? = some x) : (bts xs)[k]? = some x.data.toList := by unfold bts; rw [List.getElem?_map, h]; rfl

theorem own_past {w : World} {base n c m : Nat} {e : TypeId} {A : Option Addr} {xs : List Value} (h : w.ownsRow base e 1 (.slice A n c) m xs) {b off : Nat} (hA : A = some ⟨b, off, none⟩) : base ≤ b := by
  subst hA
  rcases h.2 with ⟨h, _⟩ | ⟨g, cap, cur, e1, h1, _⟩
  · cases h
  · cases e1; exact h1

set_option maxHeartbeats 4000000 in
theorem refFour_any (s : ByteArray) (hs : s.size ≤ 1000) (w : World) : Calls Tryz.prog 23 #[.string s] w (R4 false (r4 s.data.toList) w) := by
  have HL := Lib.hid (Lib.size_eq s).symm
  have HSP := Lib.hid fun w => refSplit_any s hs 46 w
  obtain ⟨r, hr⟩ : ∃ r, r4 s.data.toList = r := ⟨_, rfl⟩
  rw [hr]
  have HR := Lib.hid hr
  clear hr
  go_enter Tryz.func23, Tryz.ntmps23
  go_wp2_with (first
    | (have hx := H1.out; refine wpList_alloc_ad rfl rfl ?_; intro w2 a2 b2 z2; have H2 := Lib.hid (And.intro (hx.1.later b2 (Nat.le_refl _)) (And.intro a2 (And.intro (hx.2.trans (b2.mono hx.2.size)) hx.1.lt))); clear a2 b2 z2 hx)
    | (refine wpList_alloc_ad rfl rfl ?_; intro w1 a1 b1 z1; have H1 := Lib.hid (And.intro a1 b1); clear a1 b1 z1))
  refine (HSP.out _).mono ?_
  rintro e w3 ⟨v, xs, rfl, o3, hbt, b3⟩
  obtain ⟨A, c, rfl, hG⟩ := Gs.of_own o3
  have hne : w.heap.size ≠ w1.heap.size := Nat.ne_of_lt H2.out.2.2.2
  have H3 := Lib.hid (And.intro (H2.out.1.later b3 (Nat.le_refl _)) (And.intro (H2.out.2.1.later b3 (Nat.le_refl _)) (And.intro hG (H2.out.2.2.1.trans (b3.mono H2.out.2.2.1.size)))))
  have hlx : xs.length = (spl 46 s.data.toList).length := by rw [← hbt]; simp [bts]
  have HBT := Lib.hid hbt
  have hg1 : w.heap.size ≤ w1.heap.size := H1.out.2.size
  have HPA := Lib.hid (show ∀ b off, A = some ⟨b, off, none⟩ → w2.heap.size ≤ b from fun b off h => own_past o3 h)
  have hl12 := H2.out.2.1.lt
  clear o3 hG b3 hbt
  by_cases h4 : xs.length = 4
  case neg =>
    have hrn : r = none := by rw [← HR.out]; unfold r4; rw [if_neg (by omega)]
    subst hrn
    have hb4 : ((xs.length : Int) != 4) = true := by simp; omega
    clear hlx
    go_wp2_with (first
      | (refine wpList_load_ad rfl (.tmp 4) rfl rfl H3.out.2.1 ?_)
      | (refine wpList_store_ad rfl (.tmp 2) (.tmp 13) rfl false (List.replicate 16 0) rfl rfl rfl H3.out.1 ?_; intro w4 a4 o4 z4 b4; have H4 := Lib.hid (And.intro a4 (b4 _ _ (Nat.le_refl _) H3.out.2.2.2)); clear a4 o4 z4 b4))
    exact bodyPost_ret (results_ad_tmp rfl _ rfl H4.out.1) rfl ⟨H4.out.2, rfl⟩
  have hb4 : ((xs.length : Int) != 4) = false := by simp; omega
  have hspl : (spl 46 s.data.toList).length = 4 := by omega
  have HSL := Lib.hid hspl
  clear hlx hspl
  have hG4 := H3.out.2.2.1
  rw [h4] at hG4
  have HG4 := Lib.hid (And.intro hG4 h4)
  go_wp2_with fail
  clear hb4 hG4 h4
  go_loopw [6] (fun i wr => ∃ (k : Nat) (ns : List Nat), k ≤ 4 ∧ i = .int .i64 k ∧ ns.length = k ∧ AdBox wr w.heap.size false (List.replicate 16 0) ∧ AdBox wr w1.heap.size false (ab4 ns) ∧ Gs wr A 4 c (sv xs) ∧ Below w.heap.size w wr ∧ Hid (allv octetv ((bts xs).take k) = some ns)) (fun i _ => 4 - (intOf i).toNat)
  case atStart => exact ⟨0, [], Nat.zero_le _, rfl, rfl, H3.out.1, H3.out.2.1, HG4.out.1, H3.out.2.2.2, Lib.hid rfl⟩
  case round =>
    obtain ⟨k, ns, hk, rfl, hnk, ha, hv, hG, hb, hall⟩ := hrel
    by_cases hlt : k < 4
    · obtain ⟨x, hx⟩ : ∃ x, xs[k]? = some x := ⟨xs[k]'(by rw [HG4.out.2]; exact hlt), List.getElem?_eq_getElem _⟩
      obtain ⟨gb, off, rfl, hc⟩ := hG.get (sv_at hx)
      have hxm : x.data.toList ∈ spl 46 s.data.toList := by rw [← HBT.out]; exact List.mem_of_getElem? (bts_at hx)
      have hxs : x.size ≤ 1000 := by
        have h1 := splN_mem_len 46 s.data.toList _ _ hxm
        rw [HL.out] at h1
        rw [Lib.size_eq]; omega
      have hax := bts_at hx
      rw [HBT.out] at hall hax
      have HX := Lib.hid (And.intro hax hall)
      have HW := Lib.hid (And.intro ha (And.intro hv (And.intro hG hb)))
      have hD := fun w => refDecimal_any x (by omega) w
      clear hx hxm hax hall ha hv hG hb
      cases hdx : decv x.data.toList with
      | none =>
        rw [hdx] at hD
        have hrn : r = none := by
          rw [← HR.out]; unfold r4; rw [if_pos HSL.out, allv_none HX.out.1 (by unfold octetv; rw [hdx]; rfl)]; rfl
        subst hrn
        have HD := Lib.hid hD
        clear hD hdx
        rw [show rv none = -1 from rfl] at HD
        go_wp2_with fail
        refine (HD.out _).mono ?_
        rintro e w' ⟨rfl, rfl⟩
        have H4 := HW
        go_wp2_with (refine wpList_store_ad rfl (.tmp 2) (.tmp 29) rfl false (List.replicate 16 0) rfl rfl rfl H4.out.1 ?_; intro w5 a5 o5 z5 b5; have H5 := Lib.hid (And.intro a5 (b5 _ _ (Nat.le_refl _) H4.out.2.2.2)); clear a5 o5 z5 b5)
        exact bodyPost_ret (results_ad_tmp rfl _ rfl H5.out.1) rfl ⟨H5.out.2, rfl⟩
      | some n =>
        rw [hdx] at hD
        have hn1 := decv_lt hdx
        rw [show rv (some n) = (n : Int) from rfl] at hD
        have HD := Lib.hid hD
        clear hD
        by_cases hn : 255 < n
        · have hrn : r = none := by
            rw [← HR.out]; unfold r4; rw [if_pos HSL.out, allv_none HX.out.1 (by unfold octetv; rw [hdx]; show (if 255 < n then none else some n) = none; rw [if_pos hn])]; rfl
          subst hrn
          have hn' : (255 : Int) < (n : Int) := by omega
          clear hdx
          go_wp2_with fail
          refine (HD.out _).mono ?_
          rintro e w' ⟨rfl, rfl⟩
          have H4 := HW
          go_wp2_with (refine wpList_store_ad rfl (.tmp 2) (.tmp 29) rfl false (List.replicate 16 0) rfl rfl rfl H4.out.1 ?_; intro w5 a5 o5 z5 b5; have H5 := Lib.hid (And.intro a5 (b5 _ _ (Nat.le_refl _) H4.out.2.2.2)); clear a5 o5 z5 b5)
          exact bodyPost_ret (results_ad_tmp rfl _ rfl H5.out.1) rfl ⟨H5.out.2, rfl⟩
        · have hst := allv_snoc HX.out.1 HX.out.2.out (show octetv x.data.toList = some n by unfold octetv; rw [hdx]; show (if 255 < n then none else some n) = some n; rw [if_neg hn])
          have HST := Lib.hid hst
          have hn' : (n : Int) ≤ 255 := by omega
          obtain ⟨y, _, hy⟩ := HW.out.2.1.there k (by omega)
          have hf := HW.out.2.1.frozen (1 + k)
          have hput := HW.out.2.1.put k (UInt8.ofNat n)
          have hnn : ((UInt8.ofNat n).toNat : Int) = (n : Int) := by simp only [UInt8.toNat_ofNat']; omega
          rw [hnn] at hput
          have hset := ab4_snoc (ns := ns) (n := n) (by omega)
          rw [hnk] at hset
          rw [hset] at hput
          have HP := Lib.hid hput
          clear hst hdx hput hset hnn
          go_wp2_with fail
          refine (HD.out _).mono ?_
          rintro e w' ⟨rfl, rfl⟩
          have hgb := HPA.out gb off rfl
          go_wp2_with fail
          refine ⟨⟨k + 1, ns ++ [n], hlt, by go_num, by simp; omega, HW.out.1.far (p := ⟨w1.heap.size, 1 + k, none⟩) hne (.int .u8 n), HP.out, HW.out.2.2.1.far (p := ⟨w1.heap.size, 1 + k, none⟩) (by show w1.heap.size ≠ gb; omega) (.int .u8 n), HW.out.2.2.2.setCell (p := ⟨w1.heap.size, 1 + k, none⟩) hg1 (.int .u8 n), Lib.hid ?_⟩, by simp [intOf]; omega⟩
          rw [HBT.out]
          exact HST.out
    · obtain rfl : k = 4 := by omega
      have hr : r = some (ab4 ns) := by
        rw [← HR.out]; unfold r4; rw [if_pos HSL.out]
        have h1 := hall.out
        rw [HBT.out, List.take_of_length_le (by rw [HSL.out]; exact Nat.le_refl _)] at h1
        rw [h1]; rfl
      subst hr
      have HW := Lib.hid (And.intro ha (And.intro hv hb))
      have hl16 := ab4_len (ns := ns) (by omega)
      clear ha hv hG hb hall
      go_wp2_with (first
        | (refine wpList_load_ad rfl (.tmp 4) rfl rfl HW.out.2.1 ?_)
        | (refine wpList_store_ad rfl (.tmp 2) (.tmp 35) rfl false (ab4 ns) rfl rfl hl16 HW.out.1 ?_; intro w5 a5 o5 z5 b5; have H5 := Lib.hid (And.intro a5 (b5 _ _ (Nat.le_refl _) HW.out.2.2)); clear a5 o5 z5 b5))
      exact bodyPost_ret (results_ad_tmp rfl _ rfl H5.out.1) rfl ⟨H5.out.2, hl16, rfl⟩
end Go.Proofs.YtdbbgjbgmfeljaaGreatDoor

namespace Go.Proofs.YtdbbgjbgmfeljaaGreatDoor
open Go.RowKit
set_option maxRecDepth 100000

def rgs (l : List UInt8) : Option (List Nat) := if l = [] then some [] else allv groupv (spl 58 l)
def RG (r : Option (List Nat)) (w : World) (e : Ending) (w' : World) : Prop :=
  Below w.heap.size w w' ∧ match r with
    | some ns => ∃ A c, e = .returned (.tuple #[.slice A ns.length c, .bool true]) ∧ Gs w' A ns.length c (iv ns)
    | none => e = .returned (.tuple #[.slice none 0 0, .bool false])
theorem spl_len (c : UInt8) (l : List UInt8) : (spl c l).length ≤ l.length + 1 := splN_len c l l.length

set_option maxHeartbeats 4000000 in
theorem refGroups_any (s : ByteArray) (hs : s.size ≤ 1000) (w : World) : Calls Tryz.prog 48 #[.string s] w (RG (rgs s.data.toList) w) := by
  have hl : s.data.toList.length = s.size := (Lib.size_eq s).symm
  by_cases h0 : s.size = 0
  · have hl0 : s.data.toList = [] := List.eq_nil_of_length_eq_zero (by omega)
    have hse : s = ⟨#[]⟩ := bytes_inj' (by rw [hl0])
    have hr : rgs s.data.toList = some [] := by unfold rgs; rw [if_pos hl0]
    rw [hr]
    subst hse
    clear hl hl0 hr h0
    go_enter Tryz.func48, Tryz.ntmps48
    go_wp2_with fail
    go_ret2
    exact ⟨Below.refl _ _, none, 0, rfl, Gs.nil _⟩
  have hemp : s.toList.isEmpty = false := by
    rw [← decide_eq_emptyBytes]
    exact decide_eq_false (fun h => h0 (by rw [h]; rfl))
  have hne : s.data.toList ≠ [] := fun h => h0 (by rw [← hl, h]; rfl)
  obtain ⟨r, hr⟩ : ∃ r, rgs s.data.toList = r := ⟨_, rfl⟩
  have hr2 : allv groupv (spl 58 s.data.toList) = r := by rw [← hr]; unfold rgs; rw [if_neg hne]
  rw [hr]
  have HR := Lib.hid hr2
  have HSP := Lib.hid fun w => refSplit_any s hs 58 w
  have HL := Lib.hid hl
  clear hr hr2 hne hl
  go_enter Tryz.func48, Tryz.ntmps48
  go_wp2_with fail
  refine (HSP.out _).mono ?_
  rintro e w3 ⟨v, xs, rfl, o3, hbt, b3⟩
  obtain ⟨A, c, rfl, hG⟩ := Gs.of_own o3
  obtain ⟨N, hN⟩ : ∃ N, xs.length = N := ⟨_, rfl⟩
  rw [hN] at hG ⊢
  have hNl : N ≤ 1001 := by
    rw [← hN, show xs.length = (bts xs).length by simp [bts], hbt]
    have := spl_len 58 s.data.toList
    rw [HL.out] at this
    omega
  have H3 := Lib.hid (And.intro hG (And.intro b3 (And.intro hbt hN)))
  clear o3 hG b3 hbt hN
  go_wp2_with fail
  go_loopw [4, 6] (fun l i wr => ∃ (k : Nat) (ns : List Nat), k ≤ N ∧ i = .int .i64 k ∧ ns.length = k ∧ wr.ownsRow w3.heap.size 3 1 l k (iv ns) ∧ Below w3.heap.size w3 wr ∧ Hid (allv groupv ((bts xs).take k) = some ns)) (fun _ i _ => N - (intOf i).toNat)
  case atStart => exact ⟨0, [], Nat.zero_le _, rfl, rfl, World.ownsRow_nil _ _ _ _, Below.refl _ _, Lib.hid rfl⟩
  case round =>
    obtain ⟨k, ns, hk, rfl, hnk, ho, hb, hall⟩ := hrel
    have hsz := hb.size
    by_cases hlt : k < N
    · obtain ⟨x, hx⟩ : ∃ x, xs[k]? = some x := ⟨xs[k]'(by rw [H3.out.2.2.2]; exact hlt), List.getElem?_eq_getElem _⟩
      obtain ⟨gb, off, rfl, hc⟩ := (H3.out.1.later hb (Nat.le_refl _)).get (sv_at hx)
      have hxm : x.data.toList ∈ spl 58 s.data.toList := by rw [← H3.out.2.2.1]; exact List.mem_of_getElem? (bts_at hx)
      have hxs : x.size ≤ 1000 := by
        have h1 := splN_mem_len 58 s.data.toList _ _ hxm
        rw [HL.out] at h1
        rw [Lib.size_eq]; omega
      have hax := bts_at hx
      rw [H3.out.2.2.1] at hall hax
      have HX := Lib.hid (And.intro hax hall)
      have HO := Lib.hid (And.intro ho hb)
      have hD := fun w => refGroup_any x (by omega) w
      clear hx hxm hax hall ho hb
      cases hdx : groupv x.data.toList with
      | none =>
        rw [hdx, show rv none = -1 from rfl] at hD
        have hrn : r = none := by rw [← HR.out]; exact allv_none HX.out.1 hdx
        subst hrn
        have HD := Lib.hid hD
        clear hD hdx
        go_wp2_with fail
        refine (HD.out _).mono ?_
        rintro e w' ⟨rfl, rfl⟩
        go_wp2_with fail
        go_ret2
        exact ⟨H3.out.2.1.trans (HO.out.2.mono H3.out.2.1.size), rfl⟩
      | some n =>
        rw [hdx, show rv (some n) = (n : Int) from rfl] at hD
        have HD := Lib.hid hD
        have HST := Lib.hid (allv_snoc HX.out.1 HX.out.2.out hdx)
        clear hD hdx
        go_wp2_with fail
        refine (HD.out _).mono ?_
        rintro e w' ⟨rfl, rfl⟩
        go_wp2_with (at_builtin; refine wpList_append_gs rfl (.tmp 25) (.tmp 27) 73 rfl w3.heap.size 3 infoInt rfl (by omega) Tryz.underlying73 _ _ _ rfl (HO.out.1.alloc _) _ 1 1 _ rfl (by exact Gs.lit _ [.int .i64 n] 1 rfl (by unfold maxLen; omega) _ rfl _) (iv_one [n]) (by omega) (by simp; omega) ?_; intro v2 w2 o2 g2)
        have hb2 : Below w3.heap.size w3 w2 := (HO.out.2.alloc hsz _).grown g2 (by simp; omega) (fun q hq => (HO.out.1.lt q hq).1)
        have o4 : w2.ownsRow w3.heap.size 3 1 v2 (k + 1) (iv (ns ++ [n])) := by
          rw [iv_append]
          exact o2
        refine ⟨⟨k + 1, ns ++ [n], hlt, by go_num, by simp; omega, o4, hb2, Lib.hid ?_⟩, by simp [intOf]; omega⟩
        rw [H3.out.2.2.1]
        exact HST.out
    · obtain rfl : k = N := by omega
      have hr : r = some ns := by
        rw [← HR.out]
        have h1 := hall.out
        rw [List.take_of_length_le (by simp [bts]; rw [H3.out.2.2.2]; exact Nat.le_refl _), H3.out.2.2.1] at h1
        exact h1
      subst hr
      obtain ⟨A2, c2, rfl, hG2⟩ := Gs.of_own ho
      have HG2 := Lib.hid (And.intro hG2 (And.intro hb hnk))
      clear ho hb hall hG2
      go_wp2_with fail
      go_ret2
      exact ⟨H3.out.2.1.trans (HG2.out.2.1.mono H3.out.2.1.size), A2, c2, by rw [HG2.out.2.2]; rfl, by rw [HG2.out.2.2]; exact HG2.out.1⟩
end Go.Proofs.YtdbbgjbgmfeljaaGreatDoor

namespace Go.Proofs.YtdbbgjbgmfeljaaGreatDoor
open Go.RowKit
set_option maxRecDepth 100000

theorem slice_dig (a : Nat) (h : a < 16) (w : World) : (Instr.slice 9 (.string ⟨#[48, 49, 50, 51, 52, 53, 54, 55, 56, 57, 97, 98, 99, 100, 101, 102]⟩) (some (.int .i64 (a : Int))) (some (.int .i64 ((a : Int) + 1))) none).run Tryz.prog w = .ok (.string (mkS [hd a])) w := by
  rcases (show a = 0 ∨ a = 1 ∨ a = 2 ∨ a = 3 ∨ a = 4 ∨ a = 5 ∨ a = 6 ∨ a = 7 ∨ a = 8 ∨ a = 9 ∨ a = 10 ∨ a = 11 ∨ a = 12 ∨ a = 13 ∨ a = 14 ∨ a = 15 by omega) with rfl | rfl | rfl | rfl | rfl | rfl | rfl | rfl | rfl | rfl | rfl | rfl | rfl | rfl | rfl | rfl
  all_goals kernel_rfl
theorem mkS_app (a b : List UInt8) : mkS a ++ mkS b = mkS (a ++ b) := bytes_inj' (by rw [ByteArray.data_append, Array.toList_append, mkS_data, mkS_data, mkS_data])

set_option maxHeartbeats 1000000 in
theorem refHex_any : ∀ (k v : Nat), v < 16 ^ (k + 1) → k ≤ 3 → ∀ w : World, Calls Tryz.prog 37 #[.int .i64 v] w fun e w' => e = .returned (.string (mkS (hexL v))) ∧ Below w.heap.size w w'
  | k, v, hv, hk, w => by
    have hp : (16 : Nat) ^ (k + 1) ≤ 65536 := Nat.pow_le_pow_right (show 0 < 16 by omega) (show k + 1 ≤ 4 by omega)
    by_cases h : v < 16
    · rw [hexL_small h]
      have hsl := slice_dig v h
      have h' : (v : Int) < 16 := by omega
      have s1 : (v : Int) ≤ (v : Int) + 1 := by omega
      clear hv hp
      go_enter Tryz.func37, Tryz.ntmps37
      go_wp2_with fail
      go_ret
      exact ⟨rfl, Below.refl _ _⟩
    · match k, hv, hk with
      | 0, hv, _ => exact absurd (by simpa using hv) h
      | k + 1, hv, hk =>
        have ih := refHex_any k (v / 16) (by rw [Nat.pow_succ] at hv; omega) (by omega)
        rw [hexL_big h, ← mkS_app]
        have e1 : (v : Int).tmod 16 = ((v % 16 : Nat) : Int) := by rw [Int.tmod_eq_emod_of_nonneg (by omega)]; omega
        have e2 : IntKind.i64.wrap ((v : Int).tmod 16 + 1) = ((v % 16 : Nat) : Int) + 1 := by rw [e1]; exact IntWalk.i64_in _ (by omega)
        have e3 : IntKind.i64.wrap ((v : Int) / 16) = ((v / 16 : Nat) : Int) := (IntWalk.i64_in _ (by omega)).trans (by omega)
        have hsl : ∀ w, (Instr.slice 9 (.string ⟨#[48, 49, 50, 51, 52, 53, 54, 55, 56, 57, 97, 98, 99, 100, 101, 102]⟩) (some (.int .i64 ((v : Int).tmod 16))) (some (.int .i64 (IntKind.i64.wrap ((v : Int).tmod 16 + 1)))) none).run Tryz.prog w = .ok (.string (mkS [hd (v % 16)])) w := fun w => by rw [e2, e1]; exact slice_dig _ (Nat.mod_lt _ (by omega)) w
        have hhl := hexL_len (v := v / 16) (by omega)
        have n1 : (9223372036854775807 < (mkS (hexL (v / 16))).size + (mkS [hd (v % 16)]).size) = False := eq_false (by rw [Lib.size_eq, mkS_data, Lib.size_eq, mkS_data]; simp only [List.length_cons, List.length_nil]; omega)
        have E3 := Lib.hid e3
        clear hhl
        clear e1 e2 e3
        have HI := Lib.hid ih
        have h' : ¬ (v : Int) < 16 := by omega
        clear ih hv hp
        go_enter Tryz.func37, Tryz.ntmps37
        go_wp2_with fail
        have hS : Below w.heap.size w w.drew := (Below.refl _ _).drew
        refine rg_begin (fun w' => Below w.heap.size w w') 11 (by kernel_rfl) rfl ?_
        refine rg_take 0 (v := ?rv1) rfl (by kernel_rfl) (by kernel_rfl) (by kernel_rfl) (fun _ _ _ h => h) (by rfl) hS (fun w2 hw2 => ?ry1) ?rr1
        case ry1 => ((try dsimp only at hw2); go_simp <;> with_reducible rfl)
        simp only [Act.put, List.setIfInBounds_toArray, List.set_cons_zero, List.set_cons_succ]
        refine rg_take 3 (v := ?rv2) rfl (by kernel_rfl) (by kernel_rfl) (by kernel_rfl) (fun _ _ _ h => h) (by rfl) hS (fun w2 hw2 => ?ry2) ?rr2
        case ry2 => ((try dsimp only at hw2); go_simp <;> with_reducible rfl)
        simp only [Act.put, List.setIfInBounds_toArray, List.set_cons_zero, List.set_cons_succ]
        refine rg_take 5 (v := ?rv3) rfl (by kernel_rfl) (by kernel_rfl) (by kernel_rfl) (fun _ _ _ h => h) (by rfl) hS (fun w2 hw2 => ?ry3) ?rr3
        case ry3 => ((try dsimp only at hw2); go_simp <;> with_reducible rfl)
        simp only [Act.put, List.setIfInBounds_toArray, List.set_cons_zero, List.set_cons_succ]
        refine rg_take 1 (v := ?rv4) rfl (by kernel_rfl) (by kernel_rfl) (by kernel_rfl) (fun _ _ _ h => h) (by rfl) hS (fun w2 hw2 => ?ry4) ?rr4
        case ry4 => ((try dsimp only at hw2); go_simp <;> with_reducible rfl)
        simp only [Act.put, List.setIfInBounds_toArray, List.set_cons_zero, List.set_cons_succ]
        refine rg_take 4 (v := ?rv5) rfl (by kernel_rfl) (by kernel_rfl) (by kernel_rfl) (fun _ _ _ h => h) (by rfl) hS (fun w2 hw2 => ?ry5) ?rr5
        case ry5 => ((try dsimp only at hw2); go_simp <;> with_reducible rfl)
        simp only [Act.put, List.setIfInBounds_toArray, List.set_cons_zero, List.set_cons_succ]
        refine rg_take 6 (v := ?rv6) rfl (by kernel_rfl) (by kernel_rfl) (by kernel_rfl) (fun _ _ _ h => h) (by rfl) hS (fun w2 hw2 => ?ry6) ?rr6
        case ry6 => ((try dsimp only at hw2); go_simp <;> with_reducible rfl)
        simp only [Act.put, List.setIfInBounds_toArray, List.set_cons_zero, List.set_cons_succ]
        refine rg_take 7 (v := ?rv7) rfl (by kernel_rfl) (by kernel_rfl) (by kernel_rfl) (fun _ _ _ h => h) (by rfl) hS (fun w2 hw2 => ?ry7) ?rr7
        case ry7 => ((try dsimp only at hw2); go_simp <;> with_reducible rfl)
        simp only [Act.put, List.setIfInBounds_toArray, List.set_cons_zero, List.set_cons_succ]
        refine rg_take 8 (v := ?rv8) rfl (by kernel_rfl) (by kernel_rfl) (by kernel_rfl) (fun _ _ _ h => h) (by rfl) hS (fun w2 hw2 => ?ry8) ?rr8
        case ry8 => ((try dsimp only at hw2); go_simp <;> with_reducible rfl)
        simp only [Act.put, List.setIfInBounds_toArray, List.set_cons_zero, List.set_cons_succ]
        refine rg_step 2 rfl (by kernel_rfl) (by rfl) (fun K hK => ?_)
        go_simp
        rw [E3.out]
        refine (HI.out _).mono ?_
        rintro e w1 ⟨rfl, b1⟩
        replace hS := hS.trans (b1.mono hS.size)
        clear b1
        refine hK.out _ _ hS ?_
        clear hK K
        try simp only [Act.put, List.setIfInBounds_toArray, List.set_cons_zero, List.set_cons_succ]
        refine rg_take 9 (v := ?rv9) rfl (by kernel_rfl) (by kernel_rfl) (by kernel_rfl) (fun _ _ _ h => h) (by rfl) hS (fun w2 hw2 => ?ry9) ?rr9
        case ry9 => ((try dsimp only at hw2); go_simp <;> with_reducible rfl)
        simp only [Act.put, List.setIfInBounds_toArray, List.set_cons_zero, List.set_cons_succ]
        refine rg_take 10 (v := ?rv10) rfl (by kernel_rfl) (by kernel_rfl) (by kernel_rfl) (fun _ _ _ h => h) (by rfl) hS (fun w2 hw2 => ?ry10) ?rr10
        case ry10 => ((try dsimp only at hw2); go_simp <;> with_reducible rfl)
        simp only [Act.put, List.setIfInBounds_toArray, List.set_cons_zero, List.set_cons_succ]
        refine rg_done (by kernel_rfl) ?_
        have H2 := Lib.hid hS
        clear hS
        go_wp2_with fail
        go_ret
        exact ⟨rfl, H2.out⟩
end Go.Proofs.YtdbbgjbgmfeljaaGreatDoor

namespace Go.Proofs.YtdbbgjbgmfeljaaGreatDoor
open Go.RowKit
set_option maxRecDepth 100000

/-- Two bytes of an address as a number. -/
theorem num2_any {g : Nat} {v6 : Bool} {bs : List UInt8} {w : World} (hA : AdBox w g v6 bs) (k : Nat) (hk : k < 8) {a : Int} (ha : a = 2 * (k : Int)) : Calls Tryz.prog 36 #[.slice (some ⟨g, 1, none⟩) 16 16, .int .i64 a, .int .i64 2] w fun e w' => e = .returned (.int .i64 (grp bs k)) ∧ w = w' := by
  obtain ⟨x, hx, hcx⟩ := hA.there (2 * k) (by omega)
  obtain ⟨y, hy, hcy⟩ := hA.there (2 * k + 1) (by omega)
  have hx2 := x.toNat_lt
  have hy2 := y.toNat_lt
  have hg : grp bs k = x.toNat * 256 + y.toNat := by unfold grp; simp [List.getD, hx, hy]
  have hor := i64_or_byte x.toNat y.toNat (by omega) hy2
  have hor0 := i64_or_byte 0 x.toNat (by omega) hx2
  rw [hg]
  subst ha
  have HC := Lib.hid (And.intro hcx hcy)
  have HO := Lib.hid (And.intro hor hor0)
  clear hx hy hg hcx hcy hor hor0
  go_enter Tryz.func36, Tryz.ntmps36
  go_wp2
  go_loop [7, 8] (fun v i => ∃ j : Nat, j ≤ 2 ∧ i = .int .i64 j ∧ ((j = 0 ∧ v = .int .i64 0) ∨ (j = 1 ∧ v = .int .i64 x.toNat) ∨ (j = 2 ∧ v = .int .i64 ((x.toNat * 256 + y.toNat : Nat) : Int)))) (fun _ i => 2 - (intOf i).toNat)
  case atStart => exact ⟨0, Nat.zero_le _, rfl, .inl ⟨rfl, rfl⟩⟩
  case round =>
    obtain ⟨j, hj, rfl, hv⟩ := hrel
    rcases hv with ⟨rfl, rfl⟩ | ⟨rfl, rfl⟩ | ⟨rfl, rfl⟩
    · have hc : w.cell? ⟨g, 1 + 2 * k, none⟩ = some (.int .u8 x.toNat) := HC.out.1
      have o1 : bits .or .i64 0 (x.toNat : Int) = (x.toNat : Int) := by have := HO.out.2; simpa using this
      go_wp2_with fail
      go_round
      case rel => exact ⟨1, by omega, by go_num, .inr (.inl ⟨rfl, by go_num⟩)⟩
      case measure => simp [intOf]
    · have hc : w.cell? ⟨g, 1 + (2 * k + 1), none⟩ = some (.int .u8 y.toNat) := HC.out.2
      have o1 := HO.out.1
      go_wp2_with fail
      go_round
      case rel => exact ⟨2, by omega, by go_num, .inr (.inr ⟨rfl, by go_num⟩)⟩
      case measure => simp [intOf]
    · go_wp2_with fail
      go_ret
      exact ⟨rfl, rfl⟩
theorem join_next {ws : List (List UInt8)} {k : Nat} {x : List UInt8} (sep : List UInt8) (hx : ws[k + 1]? = some x) : Lib.join (ws.take (k + 1 + 1)) sep = Lib.join (ws.take (k + 1)) sep ++ sep ++ x := by
  cases ws with
  | nil => simp at hx
  | cons y r =>
    rw [List.take_succ_cons, List.take_succ_cons, Lib.join_cons, Lib.join_cons, Lib.joinTail_take_succ _ _ _ _ (by simpa using hx)]
    simp only [List.append_assoc]
theorem join_first {ws : List (List UInt8)} {x : List UInt8} (sep : List UInt8) (hx : ws[0]? = some x) : Lib.join (ws.take (0 + 1)) sep = x := by
  cases ws with
  | nil => simp at hx
  | cons y r =>
    obtain rfl : y = x := by simpa using hx
    exact Lib.join_one _ _
def ws4 (bs : List UInt8) : List (List UInt8) := (bs.take 4).map fun b => Lib.decDigits b.toNat
theorem ws4_at {bs : List UInt8} {k : Nat} {x : UInt8} (hk : k < 4) (hx : bs[k]? = some x) : (ws4 bs)[k]? = some (Lib.decDigits x.toNat) := by
  unfold ws4
  rw [List.getElem?_map, List.getElem?_take, if_pos hk, hx]
  rfl
theorem gap_num {bs : List UInt8} {bi : Int} {mi : Nat} (h : bst (z6 bs) 8 = (bi, mi)) : ((gapv (z6 bs)).1 = 8 ∧ (gapv (z6 bs)).2 = 8 ∧ bi = -1 ∧ mi = 1) ∨ (bi = ((gapv (z6 bs)).1 : Int) ∧ (gapv (z6 bs)).2 = (gapv (z6 bs)).1 + mi ∧ 1 ≤ mi ∧ (gapv (z6 bs)).2 ≤ 8) := by
  have ho := gap_ok (z6_len bs)
  rw [bst_gap (z6_len bs)] at h
  split at h
  · rename_i h8
    cases h
    exact .inl ⟨h8, by omega, rfl, rfl⟩
  · rename_i h8
    cases h
    exact .inr ⟨rfl, by omega, by omega, by omega⟩
theorem last_at {S : ByteArray} {c : UInt8} (h : S.data.toList.getLast? = some c) : ∃ h1 : 0 < S.size, S[S.size - 1]'(by omega) = c := by
  have h2 : S.data.toList[S.data.toList.length - 1]? = some c := by rw [← List.getLast?_eq_getElem?]; exact h
  have hl := Lib.size_eq S
  have h3 := (List.getElem?_eq_some_iff.1 h2).1
  have hp : 0 < S.size := by omega
  obtain ⟨d, hd, he⟩ := str_at (s := S) (i := S.size - 1) (by omega)
  rw [hl] at hd
  rw [h2] at hd
  exact ⟨hp, he.trans (Option.some.inj hd).symm⟩

set_option maxHeartbeats 8000000 in
theorem refText_any (v6 : Bool) (bs : List UInt8) (hl : bs.length = 16) (w : World) : Calls Tryz.prog 13 #[.agg (adv v6 bs)] w fun e w' => e = .returned (.string (mkS (textv v6 bs))) ∧ Below w.heap.size w w' := by
  have H1 := Lib.hid (And.intro (AdBox.new w v6 hl) ((Below.refl w.heap.size w).alloc (Nat.le_refl _) (.cells (adv v6 bs) 24)))
  have hres : textv v6 bs = if rightv v6 bs then (if v6 then text6v bs else text4v bs) else [] := rfl
  have hR := fun w => refRight_any v6 bs hl w
  cases hr : rightv v6 bs with
  | false =>
    rw [hr] at hres hR
    have HR := Lib.hid hR
    have HT := Lib.hid hres
    clear hR hres hr
    go_enter Tryz.func13, Tryz.ntmps13
    go_wp2_with (refine wpList_load_ad rfl (.tmp 1) rfl rfl H1.out.1 ?_)
    refine (HR.out _).mono ?_
    rintro e w1 ⟨rfl, b1⟩
    have H2 := Lib.hid (H1.out.2.trans (b1.mono H1.out.2.size))
    clear b1
    go_wp2_with fail
    go_ret
    exact ⟨by rw [HT.out]; rfl, H2.out⟩
  | true =>
    rw [hr] at hres hR
    have HR := Lib.hid hR
    clear hR hr
    cases v6 with
    | false =>
      have HT := Lib.hid (show textv false bs = Lib.join (ws4 bs) [46] from hres)
      clear hres
      go_enter Tryz.func13, Tryz.ntmps13
      go_wp2_with (refine wpList_load_ad rfl (.tmp 1) rfl rfl H1.out.1 ?_)
      refine (HR.out _).mono ?_
      rintro e W ⟨rfl, b1⟩
      have hc := (H1.out.1.later b1 (Nat.le_refl _)).v6_cell
      have H2 := Lib.hid (And.intro (H1.out.1.later b1 (Nat.le_refl _)) (H1.out.2.trans (b1.mono H1.out.2.size)))
      clear b1
      go_wp2_with fail
      clear hc
      go_loopw [3, 4] (fun s i wr => ∃ (k : Nat) (S : ByteArray), i = .int .i64 k ∧ k ≤ 4 ∧ s = .string S ∧ S.size ≤ 4 * k ∧ AdBox wr w.heap.size false bs ∧ Below w.heap.size w wr ∧ Hid (S.data.toList = Lib.join ((ws4 bs).take k) [46])) (fun _ i _ => 4 - (intOf i).toNat)
      case atStart => exact ⟨0, ⟨#[]⟩, rfl, by omega, rfl, Nat.le_refl _, H2.out.1, H2.out.2, Lib.hid rfl⟩
      case round =>
        obtain ⟨k, S, rfl, hk, rfl, hS, hA, hB, hT⟩ := hrel
        have HW := Lib.hid (And.intro hA hB)
        by_cases hlt : k < 4
        · obtain ⟨x, hx, hcx⟩ := hA.there k (by omega)
          have hx2 := x.toNat_lt
          have hw := ws4_at hlt hx
          obtain ⟨J, hJ⟩ : ∃ J, mkS (Lib.decDigits x.toNat) = J := ⟨_, rfl⟩
          have hJd : J.data.toList = Lib.decDigits x.toNat := by rw [← hJ, mkS_data]
          have hJs : J.size ≤ 3 := by rw [Lib.size_eq, hJd]; exact decDigits_len (by omega)
          have hD := fun w => digits_any x.toNat (by omega) w
          rw [hJ] at hD
          have HD := Lib.hid hD
          have HJ := Lib.hid hJd
          clear hA hB hD hJ hJd hx
          by_cases h0 : k = 0
          · have h0' : ¬ (0 : Int) < (k : Int) := by omega
            subst h0
            have hst := join_first [46] hw
            have HS := Lib.hid hst
            clear hst hw
            go_wp2_with fail
            refine (HD.out _).mono ?_
            rintro e w5 ⟨rfl, b5⟩
            have H5 := Lib.hid (And.intro (HW.out.1.later b5 (Nat.le_refl _)) (HW.out.2.trans (b5.mono HW.out.2.size)))
            clear b5 hcx
            have n1 : (9223372036854775807 < S.size + J.size) = False := eq_false (by omega)
            go_wp2_with fail
            go_roundw
            case rel => exact ⟨1, S ++ J, by go_num, by omega, rfl, by rw [ByteArray.size_append]; omega, H5.out.1, H5.out.2, Lib.hid (by rw [ByteArray.data_append, Array.toList_append, HJ.out, hT.out]; exact HS.out.symm)⟩
            case measure => simp [intOf]
          · obtain ⟨k, rfl⟩ : ∃ q, k = q + 1 := ⟨k - 1, by omega⟩
            have hst := join_next [46] hw
            have HS := Lib.hid hst
            have h0' : (0 : Int) < ((k + 1 : Nat) : Int) := by omega
            have n0 : (9223372036854775807 < S.size + 1) = False := eq_false (by omega)
            clear hst hw
            go_wp2_with fail
            refine (HD.out _).mono ?_
            rintro e w5 ⟨rfl, b5⟩
            have H5 := Lib.hid (And.intro (HW.out.1.later b5 (Nat.le_refl _)) (HW.out.2.trans (b5.mono HW.out.2.size)))
            clear b5 hcx
            have n1 : (9223372036854775807 < S.size + 1 + J.size) = False := eq_false (by omega)
            go_wp2_with fail
            go_roundw
            case rel => exact ⟨k + 1 + 1, S ++ ⟨#[46]⟩ ++ J, by go_num, by omega, rfl, by rw [ByteArray.size_append, ByteArray.size_append]; show S.size + 1 + J.size ≤ _; omega, H5.out.1, H5.out.2, Lib.hid (by rw [ByteArray.data_append, Array.toList_append, ByteArray.data_append, Array.toList_append, HJ.out, hT.out]; exact HS.out.symm)⟩
            case measure => simp [intOf]; omega
        · obtain rfl : k = 4 := by omega
          have hfin : S.data.toList = Lib.join (ws4 bs) [46] := by
            rw [hT.out, List.take_of_length_le]
            unfold ws4
            rw [List.length_map, List.length_take]; omega
          have HF := Lib.hid hfin
          clear hA hB hT hfin
          go_wp2_with fail
          go_ret
          exact ⟨ret_strD (bytes_injD (by rw [mkS_data, HT.out, HF.out])), HW.out.2⟩
    | true =>
      have HT := Lib.hid (show textv true bs = text6f bs from by rw [textv_f]; unfold textf; rw [show rightv true bs = true from by unfold rightv; rw [show wid true = 128 from rfl, firstv_all (by omega), beq_self_eq_true]]; rfl)
      clear hres
      go_enter Tryz.func13, Tryz.ntmps13
      go_wp2_with (refine wpList_load_ad rfl (.tmp 1) rfl rfl H1.out.1 ?_)
      refine (HR.out _).mono ?_
      rintro e W ⟨rfl, b1⟩
      have hc := (H1.out.1.later b1 (Nat.le_refl _)).v6_cell
      have H2 := Lib.hid (And.intro (H1.out.1.later b1 (Nat.le_refl _)) (H1.out.2.trans (b1.mono H1.out.2.size)))
      clear b1
      go_wp2_with fail
      clear hc
      go_loop [5, 6, 7] (fun b m i => ∃ k : Nat, i = .int .i64 k ∧ k ≤ 8 ∧ ∃ (bi : Int) (mi : Nat), b = .int .i64 bi ∧ m = .int .i64 mi ∧ 1 ≤ mi ∧ mi ≤ 8 ∧ -1 ≤ bi ∧ bi ≤ 8 ∧ Hid (bst (z6 bs) k = (bi, mi))) (fun _ _ i => 8 - (intOf i).toNat)
      case atStart => exact ⟨0, rfl, by omega, -1, 1, rfl, rfl, by omega, by omega, by omega, by omega, Lib.hid rfl⟩
      case round =>
        obtain ⟨k, rfl, hk, bi, mi, rfl, rfl, hm1, hm2, hb1, hb2, hB⟩ := hrel
        by_cases hlt : k < 8
        · go_wp2_with fail
          go_loop [8] (fun n => ∃ j : Nat, n = .int .i64 j ∧ k + j ≤ 8 ∧ Hid (∀ q, q < j → (z6 bs)[k + q]? = some true)) (fun n => 8 - (intOf n).toNat)
          case atStart => exact ⟨0, rfl, by omega, Lib.hid fun q h => absurd h (Nat.not_lt_zero q)⟩
          case round =>
            obtain ⟨j, rfl, hj, hz⟩ := hrel
            by_cases hlt2 : k + j < 8
            · have hzat := z6_at bs hlt2
              go_wp2_with fail
              refine (num2_any H2.out.1 (k + j) hlt2 (by omega)).mono ?_
              rintro e w5 ⟨rfl, rfl⟩
              generalize grp bs (k + j) = G at hzat ⊢
              by_cases hG : G = 0
              · subst hG
                have HZ := Lib.hid (show ∀ q, q < j + 1 → (z6 bs)[k + q]? = some true from fun q hq => by
                  by_cases h : q = j
                  · subst h; simpa using hzat
                  · exact hz.out q (by omega))
                clear hzat
                go_wp2_with fail
                go_round
                case rel => exact ⟨j + 1, by go_num, by omega, HZ⟩
                case measure => simp [intOf]; omega
              · have hrun : runz (z6 bs) k = j := runz_eq hz.out (by rw [hzat, decide_eq_false hG]; simp)
                clear hzat
                have hb1 : bst (z6 bs) (k + 1) = if mi < j then ((k : Int), j) else (bi, mi) := by
                  show (if (bst (z6 bs) k).2 < runz (z6 bs) k then ((k : Int), runz (z6 bs) k) else bst (z6 bs) k) = _
                  rw [hrun, hB.out]
                clear hrun
                by_cases hmj : mi < j
                · rw [if_pos hmj] at hb1
                  have HB1 := Lib.hid hb1
                  have hmj' : (mi : Int) < (j : Int) := by omega
                  clear hb1
                  go_wp2_with fail
                  exact ⟨⟨k + 1, by go_num, by omega, k, j, rfl, rfl, by omega, by omega, by omega, by omega, HB1⟩, by simp [intOf]; omega⟩
                · rw [if_neg hmj] at hb1
                  have HB1 := Lib.hid hb1
                  have hmj' : ¬ (mi : Int) < (j : Int) := by omega
                  clear hb1
                  go_wp2_with fail
                  exact ⟨⟨k + 1, by go_num, by omega, bi, mi, rfl, rfl, by omega, by omega, by omega, by omega, HB1⟩, by simp [intOf]; omega⟩
            · have hrun : runz (z6 bs) k = j := runz_eq hz.out (by rw [List.getElem?_eq_none (by rw [z6_len]; omega)]; simp)
              have hb1 : bst (z6 bs) (k + 1) = if mi < j then ((k : Int), j) else (bi, mi) := by
                show (if (bst (z6 bs) k).2 < runz (z6 bs) k then ((k : Int), runz (z6 bs) k) else bst (z6 bs) k) = _
                rw [hrun, hB.out]
              clear hrun
              by_cases hmj : mi < j
              · rw [if_pos hmj] at hb1
                have HB1 := Lib.hid hb1
                have hmj' : (mi : Int) < (j : Int) := by omega
                clear hb1
                go_wp2_with fail
                exact ⟨⟨k + 1, by go_num, by omega, k, j, rfl, rfl, by omega, by omega, by omega, by omega, HB1⟩, by simp [intOf]; omega⟩
              · rw [if_neg hmj] at hb1
                have HB1 := Lib.hid hb1
                have hmj' : ¬ (mi : Int) < (j : Int) := by omega
                clear hb1
                go_wp2_with fail
                exact ⟨⟨k + 1, by go_num, by omega, bi, mi, rfl, rfl, by omega, by omega, by omega, by omega, HB1⟩, by simp [intOf]; omega⟩
        · obtain rfl : k = 8 := by omega
          have hg := gap_num hB.out
          have hend := tx_end bs
          have hparts := w6_parts bs
          generalize (gapv (z6 bs)).1 = b at hg hend
          generalize (gapv (z6 bs)).2 = t at hg hend
          have HP := Lib.hid (And.intro hend hparts)
          have HW6 := Lib.hid fun i hi => w6_at bs (i := i) hi
          clear hend hparts hB
          generalize hws : w6 bs = ws at HP HW6
          clear hws
          have hbt : (b < t ∧ t ≤ 8 ∧ bi = b ∧ t = b + mi) ∨ (b = 8 ∧ t = 8 ∧ bi = -1) := by omega
          clear hg
          go_wp2_with fail
          go_loopw [3, 9] (fun s i wr => ∃ (k : Nat) (S : ByteArray), i = .int .i64 k ∧ k ≤ 8 ∧ s = .string S ∧ S.size ≤ 5 * k ∧ AdBox wr w.heap.size true bs ∧ Below w.heap.size w wr ∧ (k ≤ b ∨ t ≤ k) ∧ Hid (S.data.toList = tx ws b t k)) (fun _ i _ => 8 - (intOf i).toNat)
          case atStart => exact ⟨0, ⟨#[]⟩, rfl, by omega, rfl, Nat.le_refl _, H2.out.1, H2.out.2, .inl (Nat.zero_le _), Lib.hid (by unfold tx; rw [if_pos (Nat.zero_le _)]; rfl)⟩
          case round =>
            obtain ⟨k, S, rfl, hk, rfl, hS, hA, hB, hkb, hT⟩ := hrel
            have HW := Lib.hid (And.intro hA hB)
            clear hA hB
            by_cases hlt : k < 8
            · by_cases hkeq : k = b
              · subst hkeq
                have hb2' : k < t ∧ bi = k ∧ t = k + mi ∧ t ≤ 8 := by omega
                obtain ⟨hkt, rfl, rfl, ht8⟩ := hb2'
                have hst := tx_gap (ws := ws) hkt
                have HS := Lib.hid hst
                have n0 : (9223372036854775807 < S.size + 2) = False := eq_false (by omega)
                clear hst hbt
                go_wp2_with fail
                go_roundw
                case rel => exact ⟨k + mi, S ++ ⟨#[58, 58]⟩, by go_num, ht8, rfl, by rw [ByteArray.size_append]; show S.size + 2 ≤ _; omega, HW.out.1, HW.out.2, .inr (Nat.le_refl _), Lib.hid (by rw [ByteArray.data_append, Array.toList_append, hT.out]; exact HS.out.symm)⟩
                case measure => simp [intOf]; omega
              · have hne : ¬ (k : Int) = bi := by omega
                have hstep := tx_step HP.out.2 (HW6.out k hlt) (b := b) (t := t) (by omega)
                rw [← hT.out] at hstep
                obtain ⟨J, hJ⟩ : ∃ J, mkS (hexL (grp bs k)) = J := ⟨_, rfl⟩
                have hJd : J.data.toList = hexL (grp bs k) := by rw [← hJ, mkS_data]
                have hJs : J.size ≤ 4 := by rw [Lib.size_eq, hJd]; exact hexL_len (grp_lt bs k)
                have hX := refHex_any 3 (grp bs k) (grp_lt bs k) (Nat.le_refl _)
                rw [hJ] at hX
                have HX := Lib.hid hX
                have HJ := Lib.hid hJd
                clear hX hJ hJd
                rcases hstep with ⟨h0, hnx⟩ | ⟨c, hc58, hcl, hnx⟩
                · have HN := Lib.hid hnx
                  clear hnx
                  rcases h0 with h0 | h0
                  · have hSe : S = ⟨#[]⟩ := bytes_injD h0
                    clear h0 hT
                    subst hSe
                    go_wp2_with fail
                    refine (num2_any HW.out.1 k (by omega) (by omega)).mono ?_
                    rintro e w5 ⟨rfl, rfl⟩
                    go_wp2_with fail
                    refine (HX.out _).mono ?_
                    rintro e w6 ⟨rfl, b6⟩
                    have H6 := Lib.hid (And.intro (HW.out.1.later b6 (Nat.le_refl _)) (HW.out.2.trans (b6.mono HW.out.2.size)))
                    clear b6
                    have n2 : (9223372036854775807 < 0 + J.size) = False := eq_false (by omega)
                    go_wp2_with fail
                    go_roundw
                    case rel => exact ⟨k + 1, ⟨#[]⟩ ++ J, by go_num, by omega, rfl, by rw [ByteArray.size_append]; show 0 + J.size ≤ _; omega, H6.out.1, H6.out.2, by omega, Lib.hid (by rw [HN.out, ByteArray.data_append, Array.toList_append, HJ.out])⟩
                    case measure => simp [intOf]; omega
                  · obtain ⟨hp, hlast⟩ := last_at h0
                    have hemp : S.toList.isEmpty = false := by
                      rw [← decide_eq_emptyBytes]
                      exact decide_eq_false (fun h => by rw [h] at hp; exact absurd hp (by decide))
                    have q1 : (0 : Int) ≤ (S.size : Int) - 1 := by omega
                    have q2 : (S.size : Int) - 1 < (S.size : Int) := by omega
                    have q3 : ((S.size : Int) - 1).toNat = S.size - 1 := by omega
                    clear h0 hT
                    go_wp2_with fail
                    refine (num2_any HW.out.1 k (by omega) (by omega)).mono ?_
                    rintro e w5 ⟨rfl, rfl⟩
                    go_wp2_with fail
                    refine (HX.out _).mono ?_
                    rintro e w6 ⟨rfl, b6⟩
                    have H6 := Lib.hid (And.intro (HW.out.1.later b6 (Nat.le_refl _)) (HW.out.2.trans (b6.mono HW.out.2.size)))
                    clear b6
                    have n2 : (9223372036854775807 < S.size + J.size) = False := eq_false (by omega)
                    go_wp2_with fail
                    go_roundw
                    case rel => exact ⟨k + 1, S ++ J, by go_num, by omega, rfl, by rw [ByteArray.size_append]; omega, H6.out.1, H6.out.2, by omega, Lib.hid (by rw [HN.out, ByteArray.data_append, Array.toList_append, HJ.out])⟩
                    case measure => simp [intOf]; omega
                · have HN := Lib.hid hnx
                  obtain ⟨hp, hlast⟩ := last_at hcl
                  have hemp : S.toList.isEmpty = false := by
                    rw [← decide_eq_emptyBytes]
                    exact decide_eq_false (fun h => by rw [h] at hp; exact absurd hp (by decide))
                  have q1 : (0 : Int) ≤ (S.size : Int) - 1 := by omega
                  have q2 : (S.size : Int) - 1 < (S.size : Int) := by omega
                  have q3 : ((S.size : Int) - 1).toNat = S.size - 1 := by omega
                  have hc0 : ¬ c.toNat = 58 := fun h => hc58 (UInt8.toNat_inj.1 h)
                  have n0 : (9223372036854775807 < S.size + 1) = False := eq_false (by omega)
                  clear hnx hT hcl hc58
                  go_wp2_with fail
                  refine (num2_any HW.out.1 k (by omega) (by omega)).mono ?_
                  rintro e w5 ⟨rfl, rfl⟩
                  go_wp2_with fail
                  refine (HX.out _).mono ?_
                  rintro e w6 ⟨rfl, b6⟩
                  have H6 := Lib.hid (And.intro (HW.out.1.later b6 (Nat.le_refl _)) (HW.out.2.trans (b6.mono HW.out.2.size)))
                  clear b6
                  have n2 : (9223372036854775807 < S.size + 1 + J.size) = False := eq_false (by omega)
                  go_wp2_with fail
                  go_roundw
                  case rel => exact ⟨k + 1, S ++ ⟨#[58]⟩ ++ J, by go_num, by omega, rfl, by rw [ByteArray.size_append]; rw [ByteArray.size_append]; show S.size + 1 + J.size ≤ _; omega, H6.out.1, H6.out.2, by omega, Lib.hid (by rw [HN.out, ByteArray.data_append, Array.toList_append, ByteArray.data_append, Array.toList_append, HJ.out])⟩
                  case measure => simp [intOf]; omega
            · obtain rfl : k = 8 := by omega
              have HF := Lib.hid (hT.out.trans HP.out.1)
              clear hT
              go_wp2_with fail
              go_ret
              exact ⟨ret_strD (bytes_injD (by rw [mkS_data, HT.out, HF.out])), HW.out.2⟩
end Go.Proofs.YtdbbgjbgmfeljaaGreatDoor

namespace Go.Proofs.YtdbbgjbgmfeljaaGreatDoor
open Go.RowKit
set_option maxRecDepth 100000

set_option maxHeartbeats 1000000 in
theorem refTextNet_any (v6 : Bool) (bs : List UInt8) (hl : bs.length = 16) (n : Int) (w : World) : Calls Tryz.prog 17 #[.agg (pxv v6 bs n)] w fun e w' => e = .returned (.string (mkS (textnetv v6 bs n))) ∧ Below w.heap.size w w' := by
  have P1 := Lib.hid (PxBox.new w v6 n hl)
  have B1 := Lib.hid ((Below.refl w.heap.size w).alloc (Nat.le_refl _) (.cells (pxv v6 bs n) 26))
  have hR := fun w => refRightNet_any v6 bs hl n w
  cases hr : rightnetv v6 bs n with
  | false =>
    have hres : mkS (textnetv v6 bs n) = ⟨#[]⟩ := by unfold textnetv; rw [hr]; rfl
    rw [hres]
    rw [hr] at hR
    have HR := Lib.hid hR
    clear hres hR hr
    go_enter Tryz.func17, Tryz.ntmps17
    go_wp2_with (refine wpList_load_px rfl (.tmp 1) rfl rfl P1.out ?_)
    refine (HR.out _).mono ?_
    rintro e w1 ⟨rfl, b1⟩
    have H2 := Lib.hid (B1.out.trans (b1.mono B1.out.size))
    clear b1
    go_wp2_with fail
    go_ret
    exact ⟨rfl, H2.out⟩
  | true =>
    have hres : textnetv v6 bs n = textv v6 bs ++ [47] ++ Lib.decDigits n.toNat := by unfold textnetv; rw [hr]; rfl
    have hn : 0 ≤ n ∧ n ≤ 128 := by
      unfold rightnetv at hr
      simp only [Bool.and_eq_true, decide_eq_true_eq] at hr
      have := wid_le v6
      omega
    obtain ⟨k, rfl⟩ : ∃ k : Nat, n = k := ⟨n.toNat, by omega⟩
    have ht := textv_len v6 bs
    have hd := dec3_len k
    rw [← dec3_eq (n := k) (by omega)] at hd
    rw [hr] at hR
    have HR := Lib.hid hR
    obtain ⟨J, hJ⟩ : ∃ J, mkS (textv v6 bs) = J := ⟨_, rfl⟩
    obtain ⟨D, hD⟩ : ∃ D, mkS (Lib.decDigits k) = D := ⟨_, rfl⟩
    have hJd : J.data.toList = textv v6 bs := by rw [← hJ, mkS_data]
    have hDd : D.data.toList = Lib.decDigits k := by rw [← hD, mkS_data]
    have hJs : J.size ≤ 10000 := by rw [Lib.size_eq, hJd]; exact ht
    have hDs : D.size ≤ 3 := by rw [Lib.size_eq, hDd]; exact hd
    have hfin : mkS (textnetv v6 bs k) = J ++ ⟨#[47]⟩ ++ D := bytes_inj' (by
      rw [mkS_data, hres, ByteArray.data_append, ByteArray.data_append, Array.toList_append, Array.toList_append, hJd, hDd, Int.toNat_natCast])
    have HF := Lib.hid hfin
    have KT := fun w => refText_any v6 bs hl w
    rw [hJ] at KT
    have KI := fun w => digits_any k (by omega) w
    rw [hD] at KI
    have HK := Lib.hid (And.intro KT KI)
    have n1 : (9223372036854775807 < J.size + 1) = False := eq_false (by omega)
    have n2 : (9223372036854775807 < J.size + 1 + D.size) = False := eq_false (by omega)
    clear hres hn ht hd hr hR hJ hD hJd hDd hJs hDs hfin KT KI
    rw [HF.out]
    go_enter Tryz.func17, Tryz.ntmps17
    go_wp2_with (refine wpList_load_px rfl (.tmp 1) rfl rfl P1.out ?_)
    refine (HR.out _).mono ?_
    rintro e w1 ⟨rfl, b1⟩
    have H2 := Lib.hid (And.intro (P1.out.later b1 (Nat.le_refl _)) (B1.out.trans (b1.mono B1.out.size)))
    clear b1
    go_wp2_with fail
    have hcB : ∀ w', Below w1.heap.size w1 w' → w'.cell? ⟨w.heap.size, 17, none⟩ = some (.int .i64 k) := fun w' h => (H2.out.1.later h (Nat.le_refl _)).bits_cell
    have hS : Below w1.heap.size w1 w1.drew := (Below.refl _ _).drew
    have hB : Below w.heap.size w w1.drew := H2.out.2.drew
    refine rg_begin (fun w' => Below w1.heap.size w1 w') 9 (by kernel_rfl) rfl ?_
    refine rg_take 0 (v := ?rv1) rfl (by kernel_rfl) (by kernel_rfl) (by kernel_rfl) (fun _ _ _ h => h) (by rfl) hS (fun w2 hw2 => ?ry1) ?rr1
    case ry1 => ((try dsimp only at hw2); go_simp <;> with_reducible rfl)
    simp only [Act.put, List.setIfInBounds_toArray, List.set_cons_zero, List.set_cons_succ]
    refine rg_take 4 (v := ?rv2) rfl (by kernel_rfl) (by kernel_rfl) (by kernel_rfl) (fun _ _ _ h => h) (by rfl) hS (fun w2 hw2 => ?ry2) ?rr2
    case ry2 => ((try dsimp only at hw2); go_simp <;> with_reducible rfl)
    simp only [Act.put, List.setIfInBounds_toArray, List.set_cons_zero, List.set_cons_succ]
    refine rg_load 1 rfl (by kernel_rfl) (by kernel_rfl) (by kernel_rfl) (w.heap.size) (0) ((adv v6 bs)) (fun _ _ _ h => h) (by rfl) 24 (.tmp 6) rfl rfl hS (fun w2 h2 => (H2.out.1.later h2 (Nat.le_refl _)).range0) Tryz.underlying24 rfl (ad_size v6 hl) ?_
    simp only [Act.put, List.setIfInBounds_toArray, List.set_cons_zero, List.set_cons_succ]
    refine rg_take 5 (v := ?rv3) rfl (by kernel_rfl) (by kernel_rfl) (by kernel_rfl) (fun _ _ _ h => h) (by rfl) hS (fun w2 hw2 => ?ry3) ?rr3
    case ry3 => ((try dsimp only at hw2); go_simp <;> with_reducible rfl)
    simp only [Act.put, List.setIfInBounds_toArray, List.set_cons_zero, List.set_cons_succ]
    refine rg_step 2 rfl (by kernel_rfl) (by rfl) (fun K hK => ?_)
    go_simp
    refine (HK.out.1 _).mono ?_
    rintro e w2 ⟨rfl, b2⟩
    replace hS := hS.trans (b2.mono hS.size)
    replace hB := hB.trans (b2.mono hB.size)
    clear b2
    refine hK.out _ _ hS ?_
    clear hK K
    try simp only [Act.put, List.setIfInBounds_toArray, List.set_cons_zero, List.set_cons_succ]
    refine rg_take 3 (v := ?rv4) rfl (by kernel_rfl) (by kernel_rfl) (by kernel_rfl) (fun _ _ _ h => h) (by rfl) hS (fun w2 hw2 => ?ry4) ?rr4
    case ry4 => ((try dsimp only at hw2); go_simp <;> with_reducible rfl)
    simp only [Act.put, List.setIfInBounds_toArray, List.set_cons_zero, List.set_cons_succ]
    refine rg_step 6 rfl (by kernel_rfl) (by rfl) (fun K hK => ?_)
    go_simp
    refine (HK.out.2 _).mono ?_
    rintro e w3 ⟨rfl, b3⟩
    replace hS := hS.trans (b3.mono hS.size)
    replace hB := hB.trans (b3.mono hB.size)
    clear b3
    refine hK.out _ _ hS ?_
    clear hK K
    try simp only [Act.put, List.setIfInBounds_toArray, List.set_cons_zero, List.set_cons_succ]
    refine rg_take 7 (v := ?rv5) rfl (by kernel_rfl) (by kernel_rfl) (by kernel_rfl) (fun _ _ _ h => h) (by rfl) hS (fun w2 hw2 => ?ry5) ?rr5
    case ry5 => ((try dsimp only at hw2); go_simp <;> with_reducible rfl)
    simp only [Act.put, List.setIfInBounds_toArray, List.set_cons_zero, List.set_cons_succ]
    refine rg_take 8 (v := ?rv6) rfl (by kernel_rfl) (by kernel_rfl) (by kernel_rfl) (fun _ _ _ h => h) (by rfl) hS (fun w2 hw2 => ?ry6) ?rr6
    case ry6 => ((try dsimp only at hw2); go_simp <;> with_reducible rfl)
    simp only [Act.put, List.setIfInBounds_toArray, List.set_cons_zero, List.set_cons_succ]
    refine rg_done (by kernel_rfl) ?_
    have H3 := Lib.hid hB
    clear hS hB hcB
    go_wp2_with fail
    go_ret
    exact ⟨rfl, H3.out⟩
end Go.Proofs.YtdbbgjbgmfeljaaGreatDoor
