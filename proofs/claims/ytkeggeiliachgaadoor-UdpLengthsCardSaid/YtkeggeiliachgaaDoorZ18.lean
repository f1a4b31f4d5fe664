/-
  What tells an error stands, where another kind of block is written. No conditions.
  octets.stretch, U16, U32, Part, whatever is there: the number, the bytes, or why there are none. Conditions: those of the slice; 2^47 bytes at most; places and lengths are ints.
  Whether so many bytes are there, at places that are no negative ones. No conditions.
  Segments as values: what tcp's Parse answers, what Build answers. No conditions.
  Datagrams as values: what udp's Parse answers, what Build answers; a byte turned. No conditions.
  Datagrams put right; with another length, with a byte turned. No conditions.
-/
import Derived.Test.YtkeggeiliachgaaDoorZ12
import Derived.Test.YtkeggeiliachgaaDoorZ17
import Derived.Test.YtkeggeiliachgaaDoorZ15
import Derived.Test.YtkeggeiliachgaaDoorZ14
import Derived.Test.YtkeggeiliachgaaDoorZ01
namespace Go.Proofs.YtkeggeiliachgaaDoor
open Go.RowKit
set_option maxRecDepth 100000

/-- What tells an error stands, where another kind of block is written. -/
theorem Faults.far {w w' : World} {g : Nat} {cs : Array Value} {T : TypeId} (hg : w.heap[g]? = some (.cells cs T (0, 0))) (hT : T ≠ 70) (hh : ∀ k, k ≠ g → w'.heap[k]? = w.heap[k]?) {d : Nat} {v : Value} {fs : List (Nat × Int)} {n : Int} (h : Faults w d v fs n) : Faults w' d v fs n := by
  induction h with
  | errno n => exact .errno n
  | fault d b at_ v fs c h1 h2 h3 _ ih =>
    have hb : b ≠ g := by
      intro e
      subst e
      rw [hg] at h1
      injection h1 with h1
      injection h1 with _ h1 _
      exact hT h1
    exact .fault d b at_ v fs c ((hh b hb).trans h1) ((World.cell?_of_block (w := w) (hh b hb)).trans h2) ((World.cell?_of_block (w := w) (hh b hb)).trans h3) ih
theorem Tells.far {w w' : World} {g : Nat} {cs : Array Value} {T : TypeId} {v : Value} {f : Fl} (h : Tells w v f) (hg : w.heap[g]? = some (.cells cs T (0, 0))) (hT : T ≠ 70) (hh : ∀ k, k ≠ g → w'.heap[k]? = w.heap[k]?) : Tells w' v f := by
  rcases h with h | ⟨h0, d, fs, h1, h2⟩
  · exact .inl h
  · exact .inr ⟨h0, d, fs, h1.far hg hT hh, h2⟩
theorem Tells.held' {w : World} {v : Value} {f : Fl} (h : Tells w v f) (hc : f.code ≠ 0) : ∃ T x, v = .iface T x := by
  rcases h with ⟨h0, _⟩ | ⟨h0, d, fs, h1, _⟩
  · exact absurd h0 hc
  · exact h1.chain.held
theorem Tells.none' {w : World} {v : Value} {f : Fl} (h : Tells w v f) (hc : f.code = 0) : v = .nilIface := by
  rcases h with ⟨_, h⟩ | ⟨h0, _⟩
  · exact h
  · exact absurd hc h0
/-- errors.Is at what tells an error. -/
theorem Is_told {w : World} {v : Value} {f : Fl} (h : Tells w v f) (hc : f.code ≠ 0) (x : Int) : Calls Tryd.prog 33 #[v, .iface 33 (.int .i64 x)] w fun e w' => e = .returned (.bool (f.code == x)) ∧ w = w' := by
  rcases h with ⟨h, _⟩ | ⟨_, d, fs, h, _⟩
  · exact absurd h hc
  · exact Is_any h
end Go.Proofs.YtkeggeiliachgaaDoor

namespace Go.Proofs.YtkeggeiliachgaaDoor
open Go.RowKit

/-- Why so many bytes are not there. -/
def needOf (n : Nat) (at_ k : Int) : Fl := if at_ < 0 ∨ k < 0 then ⟨1, 0, false⟩ else if 0 < k ∧ (n : Int) - at_ < k then ⟨3, at_, true⟩ else ⟨0, 0, false⟩

/-- stretch, where it refuses. -/
theorem stretch_bad {A : Option Addr} {n c : Nat} {l : List UInt8} {w : World} (hb : Bs w A n c l) (at_ k : Int) (h63 : at_ ≤ 9223372036854775807) (k63 : k ≤ 9223372036854775807) (hf : (needOf n at_ k).code ≠ 0) :
    Calls Tryd.prog 48 #[.slice A n c, .int .i64 at_, .int .i64 k] w fun e w' => ∃ v, e = .returned (.tuple #[.slice none 0 0, v]) ∧ Tells w' v (needOf n at_ k) ∧ Below w.heap.size w w' := by
  unfold needOf at hf ⊢
  by_cases hneg : at_ < 0 ∨ k < 0
  · rw [if_pos hneg]
    have H := Lib.hid (cut_bad A n c at_ k w (by omega))
    clear hf hb hneg
    go_enter Tryd.func48, Tryd.ntmps48
    go_wp2_with fail
    refine H.out.mono ?_
    rintro e w' ⟨rfl, rfl⟩
    go_wp2_with fail
    refine (Is_any (x := 3) (Faults.errno (w := w) 1)).mono ?_
    rintro e w' ⟨rfl, rfl⟩
    go_wp2_with fail
    go_ret2
    exact ⟨_, rfl, Tells.bare _ 1 (by decide) 0, Below.refl _ _⟩
  · rw [if_neg hneg] at hf ⊢
    by_cases hs : 0 < k ∧ (n : Int) - at_ < k
    · rw [if_pos hs]
      obtain ⟨a', rfl⟩ := Int.eq_ofNat_of_zero_le (show 0 ≤ at_ by omega)
      obtain ⟨k', rfl⟩ := Int.eq_ofNat_of_zero_le (show 0 ≤ k by omega)
      have H := Lib.hid (cut_short hb a' k' (by omega) (by omega) (by omega) (by omega))
      clear hf hb hneg hs
      go_enter Tryd.func48, Tryd.ntmps48
      go_wp2_with fail
      refine H.out.mono ?_
      rintro e w' ⟨rfl, rfl⟩
      go_wp2_with fail
      refine (Is_any (x := 3) (Faults.errno (w := w) 3)).mono ?_
      rintro e w' ⟨rfl, rfl⟩
      go_wp2_with fail
      refine (wrap_told (a := 0) a' (Tells.bare w 3 (by decide) 0) (by decide)).mono ?_
      rintro e w' ⟨v', rfl, h1, h2⟩
      have H1 := Lib.hid (And.intro h1 h2)
      clear h1 h2
      go_wp2_with fail
      go_ret2
      exact ⟨_, rfl, H1.out⟩
    · rw [if_neg hs] at hf
      exact absurd rfl hf

/-- Where so many bytes are there, what cut gives. -/
theorem cut_there {A : Option Addr} {n c : Nat} {l : List UInt8} {w : World} (hb : Bs w A n c l) (at_ k : Int) (h63 : at_ ≤ 9223372036854775807) (hf : (needOf n at_ k).code = 0) :
    Calls Tryd.prog 55 #[.slice A n c, .int .i64 at_, .int .i64 k] w fun e w' => ∃ A' c', e = .returned (.tuple #[.slice A' k.toNat c', .nilIface]) ∧ w = w' ∧ Bs w A' k.toNat c' ((l.drop at_.toNat).take k.toNat) := by
  unfold needOf at hf
  by_cases hneg : at_ < 0 ∨ k < 0
  · rw [if_pos hneg] at hf; exact absurd hf (by simp)
  · rw [if_neg hneg] at hf
    by_cases hs : 0 < k ∧ (n : Int) - at_ < k
    · rw [if_pos hs] at hf; exact absurd hf (by simp)
    · obtain ⟨a', rfl⟩ := Int.eq_ofNat_of_zero_le (show 0 ≤ at_ by omega)
      obtain ⟨k', rfl⟩ := Int.eq_ofNat_of_zero_le (show 0 ≤ k by omega)
      rw [Int.toNat_natCast, Int.toNat_natCast]
      by_cases h : a' + k' ≤ n
      · exact cut_ok hb a' k' h
      · obtain rfl : k' = 0 := by omega
        have := cut_zero hb a' (by omega) (by omega)
        rw [List.take_zero]
        exact this
theorem needOf_there {n : Nat} {at_ k : Int} (hk : 0 < k) (hf : (needOf n at_ k).code = 0) : 0 ≤ at_ ∧ at_ + k ≤ n := by
  unfold needOf at hf
  by_cases hneg : at_ < 0 ∨ k < 0
  · rw [if_pos hneg] at hf; exact absurd hf (by simp)
  · rw [if_neg hneg] at hf
    by_cases hs : 0 < k ∧ (n : Int) - at_ < k
    · rw [if_pos hs] at hf; exact absurd hf (by simp)
    · omega
theorem needOf_none {n : Nat} {at_ k : Int} (hf : (needOf n at_ k).code = 0) : needOf n at_ k = ⟨0, 0, false⟩ := by
  unfold needOf at hf ⊢
  by_cases hneg : at_ < 0 ∨ k < 0
  · rw [if_pos hneg] at hf; exact absurd hf (by simp)
  · rw [if_neg hneg] at hf ⊢
    by_cases hs : 0 < k ∧ (n : Int) - at_ < k
    · rw [if_pos hs] at hf; exact absurd hf (by simp)
    · rw [if_neg hs]

/-- The number at a place; 0, where it is not there. -/
def numAt (l : List UInt8) (n : Nat) (at_ : Int) (k : Nat) : Nat := if (needOf n at_ k).code = 0 then be ((l.drop at_.toNat).take k) else 0
/-- The bytes at a place; none, where they are not there. -/
def partAt (l : List UInt8) (n : Nat) (at_ k : Int) : List UInt8 := if (needOf n at_ k).code = 0 then (l.drop at_.toNat).take k.toNat else []

theorem u16_any {A : Option Addr} {n c : Nat} {l : List UInt8} {w : World} (hb : Bs w A n c l) (at_ : Int) (h63 : at_ ≤ 9223372036854775807) : Calls Tryd.prog 35 #[.slice A n c, .int .i64 at_] w fun e w' =>
    ∃ v, e = .returned (.tuple #[.int .i64 (numAt l n at_ 2 : Nat), v]) ∧ Tells w' v (needOf n at_ 2) ∧ Below w.heap.size w w' := by
  unfold numAt
  by_cases hf : (needOf n at_ 2).code = 0
  · have h0 := needOf_there (by omega) hf
    rw [show ((2 : Nat) : Int) = 2 from rfl, if_pos hf, needOf_none hf]
    obtain ⟨a', rfl⟩ := Int.eq_ofNat_of_zero_le h0.1
    exact (u16_ok hb a' (by omega)).mono fun _ _ ⟨he, hw⟩ => ⟨_, he, Tells.nil _ _ _, by rw [← hw]; exact Below.refl _ _⟩
  · rw [show ((2 : Nat) : Int) = 2 from rfl, if_neg hf]
    have H := Lib.hid (stretch_bad hb at_ 2 h63 (by omega) hf)
    clear hb hf
    go_enter Tryd.func35, Tryd.ntmps35
    go_wp2_with fail
    refine H.out.mono ?_
    rintro e w1 ⟨v, rfl, h1, h2⟩
    have H1 := Lib.hid (And.intro h1 h2)
    clear h1 h2
    go_wp2_with fail
    refine (number_any (Bs.nil w1)).mono ?_
    rintro e w' ⟨rfl, rfl⟩
    rw [show be [] = 0 from rfl]
    go_wp2_with fail
    go_ret2
    exact ⟨_, rfl, H1.out⟩
theorem part_any {A : Option Addr} {n c : Nat} {l : List UInt8} {w : World} (hb : Bs w A n c l) (at_ k : Int) (h63 : at_ ≤ 9223372036854775807) (k63 : k ≤ 9223372036854775807) (h47 : n ≤ 140737488350000) : Calls Tryd.prog 34 #[.slice A n c, .int .i64 at_, .int .i64 k] w fun e w' =>
    ∃ A' n' c' v, e = .returned (.tuple #[.slice A' n' c', v]) ∧ Bs w' A' n' c' (partAt l n at_ k) ∧ Tells w' v (needOf n at_ k) ∧ Below w.heap.size w w' := by
  unfold partAt
  by_cases hf : (needOf n at_ k).code = 0
  · rw [if_pos hf, needOf_none hf]
    refine (part_of_cut (cut_there hb at_ k h63 hf) ?_).mono ?_
    · rcases Int.lt_or_le 0 k with h | h
      · have := needOf_there h hf; omega
      · omega
    · rintro e w' ⟨v', rfl, ho, hb'⟩
      obtain ⟨A', c', rfl, h⟩ := Bs.of_own ho
      exact ⟨_, _, _, _, rfl, h, Tells.nil _ _ _, hb'⟩
  · rw [if_neg hf]
    have H := Lib.hid (stretch_bad hb at_ k h63 k63 hf)
    clear hb hf
    go_enter Tryd.func34, Tryd.ntmps34
    go_wp2_with fail
    refine H.out.mono ?_
    rintro e w1 ⟨v, rfl, h1, h2⟩
    have H1 := Lib.hid (And.intro h1 h2)
    clear h1 h2
    go_wp2_with fail
    refine (clone_any (Bs.nil w1) (by omega)).mono ?_
    rintro e w2 ⟨v2, rfl, o2, b2⟩
    obtain ⟨A', c', rfl, h⟩ := Bs.of_own o2
    have H2 := Lib.hid (And.intro h b2)
    clear o2 b2 h
    go_wp2_with fail
    go_ret2
    exact ⟨_, _, _, _, rfl, H2.out.1, H1.out.1.later H2.out.2 (Nat.le_refl _), H1.out.2.trans (H2.out.2.mono H1.out.2.size)⟩
end Go.Proofs.YtkeggeiliachgaaDoor

namespace Go.Proofs.YtkeggeiliachgaaDoor
open Go.RowKit
set_option maxRecDepth 100000

theorem need_short {n i k : Nat} (h : n < i + k) (h0 : 0 < k) : needOf n i k = ⟨3, i, true⟩ := by
  unfold needOf
  rw [if_neg (by omega), if_pos (by omega)]
theorem need_there {n i k : Nat} (h : i + k ≤ n) : needOf n i k = ⟨0, 0, false⟩ := by
  unfold needOf
  rw [if_neg (by omega), if_neg (by omega)]
theorem part_there {l : List UInt8} {n i k : Nat} (h : i + k ≤ n) : partAt l n i k = (l.drop i).take k := by
  unfold partAt
  rw [need_there h, if_pos rfl, Int.toNat_natCast, Int.toNat_natCast]
end Go.Proofs.YtkeggeiliachgaaDoor

namespace Go.Proofs.YtkeggeiliachgaaDoor
open Go.RowKit
set_option maxRecDepth 100000

/-- A segment. -/
structure Sg where
  sp : Int
  dp : Int
  seq : Int
  ack : Int
  fl : Int
  pay : List UInt8
def Sg.zero : Sg := ⟨0, 0, 0, 0, 0, []⟩
/-- What Parse answers: the sum over the addresses, and the bytes. -/
def tcpv (o : Nat) (l : List UInt8) (n : Nat) : Sg × Fl :=
  if n < 20 then (.zero, ⟨3, 0, true⟩)
  else if bat l 12 / 16 < 5 ∨ n < 4 * (bat l 12 / 16) then (.zero, ⟨7, 12, true⟩)
  else if o ≠ 0 then (.zero, ⟨8, 16, true⟩)
  else (⟨num2 l 0, num2 l 2, num4 l 4, num4 l 8, (bat l 13 % 64 : Nat), l.drop (4 * (bat l 12 / 16))⟩, ⟨0, 0, false⟩)
/-- May that be built? -/
def mayT (s : Sg) : Prop := (0 ≤ s.sp ∧ s.sp ≤ 65535) ∧ (0 ≤ s.dp ∧ s.dp ≤ 65535) ∧ (0 ≤ s.fl ∧ s.fl ≤ 63) ∧ s.pay.length ≤ 65515
instance (s : Sg) : Decidable (mayT s) := by unfold mayT; infer_instance
/-- The head, with two bytes as its sum. -/
def tcpH (s : Sg) (x y : UInt8) : List UInt8 := putn s.sp 2 ++ putn s.dp 2 ++ putn s.seq 4 ++ putn s.ack 4 ++ [80, ub s.fl, 4, 0, x, y, 0, 0]
theorem tcpH_length (s : Sg) (x y : UInt8) : (tcpH s x y).length = 20 := by simp [tcpH, putn_length]
theorem tcpH_cons (s : Sg) (x y : UInt8) (r : List UInt8) : ∃ a0 a1 b0 b1 c0 c1 c2 c3 d0 d1 d2 d3, putn s.sp 2 = [a0, a1] ∧ putn s.dp 2 = [b0, b1] ∧ putn s.seq 4 = [c0, c1, c2, c3] ∧ putn s.ack 4 = [d0, d1, d2, d3] ∧
    tcpH s x y ++ r = a0 :: a1 :: b0 :: b1 :: c0 :: c1 :: c2 :: c3 :: d0 :: d1 :: d2 :: d3 :: 80 :: ub s.fl :: 4 :: 0 :: x :: y :: 0 :: 0 :: r :=
  ⟨_, _, _, _, _, _, _, _, _, _, _, _, rfl, rfl, rfl, rfl, rfl⟩
theorem tcpH_set (s : Sg) (x y u v : UInt8) (r : List UInt8) : (((tcpH s x y ++ r).set 16 u).set 17 v) = tcpH s u v ++ r := by
  obtain ⟨_, _, _, _, _, _, _, _, _, _, _, _, e1, e2, e3, e4, h⟩ := tcpH_cons s x y r
  rw [h]
  unfold tcpH
  rw [e1, e2, e3, e4]
  rfl
theorem be_put2 {v : Int} (h : 0 ≤ v ∧ v ≤ 65535) : (be (putn v 2) : Int) = v := by
  have h1 := byte_cell (v / 256)
  have h0 := byte_cell v
  have e1 : (2 : Int) ^ (8 * 1) = 256 := rfl
  have e0 : (2 : Int) ^ (8 * 0) = 1 := rfl
  simp only [putn, be, List.foldl_cons, List.foldl_nil, e1, e0, Int.ediv_one, Nat.zero_mul, Nat.zero_add, Int.natCast_add, Int.natCast_mul, h1, h0]
  omega
theorem be_put4 {v : Int} (h : 0 ≤ v ∧ v < 4294967296) : (be (putn v 4) : Int) = v := by
  have h3 := byte_cell (v / 16777216)
  have h2 := byte_cell (v / 65536)
  have h1 := byte_cell (v / 256)
  have h0 := byte_cell v
  have e3 : (2 : Int) ^ (8 * 3) = 16777216 := rfl
  have e2 : (2 : Int) ^ (8 * 2) = 65536 := rfl
  have e1 : (2 : Int) ^ (8 * 1) = 256 := rfl
  have e0 : (2 : Int) ^ (8 * 0) = 1 := rfl
  simp only [putn, be, List.foldl_cons, List.foldl_nil, e3, e2, e1, e0, Int.ediv_one, Nat.zero_mul, Nat.zero_add, Int.natCast_add, Int.natCast_mul, h3, h2, h1, h0]
  omega
/-- What is told of the head of what was built. -/
theorem tcpH_told {s : Sg} (hm : mayT s) (hq : 0 ≤ s.seq ∧ s.seq < 4294967296) (hk : 0 ≤ s.ack ∧ s.ack < 4294967296) (x y : UInt8) (r : List UInt8) :
    (num2 (tcpH s x y ++ r) 0 : Int) = s.sp ∧ (num2 (tcpH s x y ++ r) 2 : Int) = s.dp ∧ (num4 (tcpH s x y ++ r) 4 : Int) = s.seq ∧ (num4 (tcpH s x y ++ r) 8 : Int) = s.ack ∧ bat (tcpH s x y ++ r) 12 = 80 ∧ ((bat (tcpH s x y ++ r) 13 % 64 : Nat) : Int) = s.fl := by
  obtain ⟨h1, h2, h3, h4⟩ := hm
  refine ⟨?_, ?_, ?_, ?_, rfl, ?_⟩
  · exact (congrArg (fun l : List UInt8 => (be l : Int)) (show ((tcpH s x y ++ r).drop 0).take 2 = putn s.sp 2 from rfl)).trans (be_put2 h1)
  · exact (congrArg (fun l : List UInt8 => (be l : Int)) (show ((tcpH s x y ++ r).drop 2).take 2 = putn s.dp 2 from rfl)).trans (be_put2 h2)
  · exact (congrArg (fun l : List UInt8 => (be l : Int)) (show ((tcpH s x y ++ r).drop 4).take 4 = putn s.seq 4 from rfl)).trans (be_put4 hq)
  · exact (congrArg (fun l : List UInt8 => (be l : Int)) (show ((tcpH s x y ++ r).drop 8).take 4 = putn s.ack 4 from rfl)).trans (be_put4 hk)
  · have hb : bat (tcpH s x y ++ r) 13 = (ub s.fl).toNat := rfl
    have hu := ub_cell s.fl
    rw [hb]
    omega
/-- The sum of a segment whose own sum counts as 0. -/
def tcpK (ah : List UInt8) (s : Sg) : Nat := cks (ah ++ (tcpH s 0 0 ++ s.pay))
/-- What is built, behind what is thought ahead of it. -/
def tcpB (ah : List UInt8) (s : Sg) : List UInt8 := tcpH s (UInt8.ofNat (tcpK ah s / 256)) (UInt8.ofNat (tcpK ah s % 256)) ++ s.pay
theorem tcpB_length (ah : List UInt8) (s : Sg) : (tcpB ah s).length = 20 + s.pay.length := by unfold tcpB; rw [List.length_append, tcpH_length]
/-- Two bytes turned into a sum: then all is 0. -/
theorem cks_mend (ah l : List UInt8) (hev : ah.length % 2 = 0) (j : Nat) (hj : j % 2 = 0) (hjl : j + 1 < l.length) (k : Nat) (hk : cks (ah ++ ((l.set j 0).set (j + 1) 0)) = k) :
    cks (ah ++ ((l.set j (UInt8.ofNat (k / 256))).set (j + 1) (UInt8.ofNat (k % 256)))) = 0 := by
  have hk1 : k ≤ 65535 := by rw [← hk]; exact cks_le _
  have hx : (UInt8.ofNat (k / 256)).toNat = k / 256 := by simp only [UInt8.toNat_ofNat']; omega
  have hy : (UInt8.ofNat (k % 256)).toNat = k % 256 := by simp only [UInt8.toNat_ofNat']; omega
  obtain ⟨p, hp⟩ : ∃ p, l[j]? = some p := ⟨l[j]'(by omega), List.getElem?_eq_getElem _⟩
  obtain ⟨q, hq⟩ : ∃ q, l[j + 1]? = some q := ⟨l[j + 1]'(by omega), List.getElem?_eq_getElem _⟩
  have t0 := tot_set l j p q 0 0 hj hp hq
  have t1 := tot_set l j p q (UInt8.ofNat (k / 256)) (UInt8.ofNat (k % 256)) hj hp hq
  rw [cks_append _ _ hev] at hk ⊢
  rw [hx, hy] at t1
  have z0 : (0 : UInt8).toNat = 0 := rfl
  rw [z0] at t0
  have hk2 : k / 256 * 256 + k % 256 = k := by omega
  rw [hk2] at t1
  have hT : tot ah + tot ((l.set j (UInt8.ofNat (k / 256))).set (j + 1) (UInt8.ofNat (k % 256))) = (tot ah + tot ((l.set j 0).set (j + 1) 0)) + k := by omega
  rw [hT]
  have hf := fold_fold (tot ah + tot ((l.set j 0).set (j + 1) 0)) k
  have hle := fold_le (tot ah + tot ((l.set j 0).set (j + 1) 0))
  generalize fold (tot ah + tot ((l.set j 0).set (j + 1) 0)) = f at hk hf hle
  rw [← hf, show f + k = 65535 by omega]
  rfl
theorem tcpB_sum (ah : List UInt8) (hev : ah.length % 2 = 0) (s : Sg) : cks (ah ++ tcpB ah s) = 0 := by
  have h := cks_mend ah (tcpH s 0 0 ++ s.pay) hev 16 (by omega) (by rw [List.length_append, tcpH_length]; omega) (tcpK ah s) (by rw [tcpH_set]; rfl)
  rw [tcpH_set] at h
  exact h
/-- What is built, or put right, is parsed, if its sum over some addresses is so. -/
theorem tcpv_built {s : Sg} (hm : mayT s) (hq : 0 ≤ s.seq ∧ s.seq < 4294967296) (hk : 0 ≤ s.ack ∧ s.ack < 4294967296) (ah : List UInt8) (o : Nat) {n : Nat} (hn : n = 20 + s.pay.length) : tcpv o (tcpB ah s) n = if o ≠ 0 then (.zero, ⟨8, 16, true⟩) else (s, ⟨0, 0, false⟩) := by
  obtain ⟨h1, h2, h3, h4, h5, h6⟩ := tcpH_told hm hq hk (UInt8.ofNat (tcpK ah s / 256)) (UInt8.ofNat (tcpK ah s % 256)) s.pay
  unfold tcpv
  rw [if_neg (by omega), show bat (tcpB ah s) 12 = 80 from h5, if_neg (by omega)]
  split
  · rfl
  · have hd : (tcpB ah s).drop 20 = s.pay := by unfold tcpB; exact List.drop_left' (tcpH_length s _ _)
    have e1 : (num2 (tcpB ah s) 0 : Int) = s.sp := h1
    have e2 : (num2 (tcpB ah s) 2 : Int) = s.dp := h2
    have e3 : (num4 (tcpB ah s) 4 : Int) = s.seq := h3
    have e4 : (num4 (tcpB ah s) 8 : Int) = s.ack := h4
    have e6 : ((bat (tcpB ah s) 13 % 64 : Nat) : Int) = s.fl := h6
    rw [e1, e2, e3, e4, e6, show 4 * (80 / 16) = 20 from rfl, hd]
end Go.Proofs.YtkeggeiliachgaaDoor

namespace Go.Proofs.YtkeggeiliachgaaDoor
open Go.RowKit
set_option maxRecDepth 100000

/-- A datagram. -/
structure Dg where
  sp : Int
  dp : Int
  pay : List UInt8
def Dg.zero : Dg := ⟨0, 0, []⟩
/-- Is its sum wrong? v6: the version of who sends it; o: the sum over the addresses and as many bytes as it says. -/
def udpBad (v6 : Bool) (o : Nat) (l : List UInt8) : Prop := (num2 l 6 = 0 ∧ v6 = true) ∨ (num2 l 6 ≠ 0 ∧ o ≠ 0)
instance (v6 : Bool) (o : Nat) (l : List UInt8) : Decidable (udpBad v6 o l) := by unfold udpBad; infer_instance
/-- What Parse answers. -/
def udpv (v6 : Bool) (o : Nat) (l : List UInt8) (n : Nat) : Dg × Fl :=
  if n < 8 then (.zero, ⟨3, 0, true⟩)
  else if num2 l 4 < 8 ∨ n < num2 l 4 then (.zero, ⟨7, 4, true⟩)
  else if udpBad v6 o l then (.zero, ⟨8, 6, true⟩)
  else (⟨num2 l 0, num2 l 2, (l.take (num2 l 4)).drop 8⟩, ⟨0, 0, false⟩)
/-- The sum that counts, over what is thought ahead of so many bytes. -/
def udpO (ah : Nat → List UInt8) (l : List UInt8) : Nat := cks (ah (num2 l 4) ++ l.take (num2 l 4))
/-- May that be built? -/
def mayD (d : Dg) : Prop := (0 ≤ d.sp ∧ d.sp ≤ 65535) ∧ (0 ≤ d.dp ∧ d.dp ≤ 65535) ∧ d.pay.length ≤ 65527
instance (d : Dg) : Decidable (mayD d) := by unfold mayD; infer_instance
/-- The head, with two bytes as its sum. -/
def udpH (d : Dg) (x y : UInt8) : List UInt8 := putn d.sp 2 ++ putn d.dp 2 ++ putn ((8 + d.pay.length : Nat) : Int) 2 ++ [x, y]
theorem udpH_length (d : Dg) (x y : UInt8) : (udpH d x y).length = 8 := by simp [udpH, putn_length]
theorem udpH_cons (d : Dg) (x y : UInt8) (r : List UInt8) : ∃ a0 a1 b0 b1 c0 c1, putn d.sp 2 = [a0, a1] ∧ putn d.dp 2 = [b0, b1] ∧ putn ((8 + d.pay.length : Nat) : Int) 2 = [c0, c1] ∧
    udpH d x y ++ r = a0 :: a1 :: b0 :: b1 :: c0 :: c1 :: x :: y :: r :=
  ⟨_, _, _, _, _, _, rfl, rfl, rfl, rfl⟩
theorem udpH_set (d : Dg) (x y u v : UInt8) (r : List UInt8) : (((udpH d x y ++ r).set 6 u).set 7 v) = udpH d u v ++ r := by
  obtain ⟨_, _, _, _, _, _, e1, e2, e3, h⟩ := udpH_cons d x y r
  rw [h]
  unfold udpH
  rw [e1, e2, e3]
  rfl
theorem udpH_splice (d : Dg) (x y u v : UInt8) (r : List UInt8) : (udpH d x y ++ r).take 6 ++ ([u, v] ++ (udpH d x y ++ r).drop (6 + 2)) = udpH d u v ++ r := by
  obtain ⟨_, _, _, _, _, _, e1, e2, e3, h⟩ := udpH_cons d x y r
  rw [h]
  unfold udpH
  rw [e1, e2, e3]
  rfl
/-- What is told of the head of what was built. -/
theorem udpH_told {d : Dg} (hm : mayD d) (x y : UInt8) (r : List UInt8) :
    (num2 (udpH d x y ++ r) 0 : Int) = d.sp ∧ (num2 (udpH d x y ++ r) 2 : Int) = d.dp ∧ num2 (udpH d x y ++ r) 4 = 8 + d.pay.length ∧ num2 (udpH d x y ++ r) 6 = x.toNat * 256 + y.toNat := by
  obtain ⟨h1, h2, h3⟩ := hm
  refine ⟨?_, ?_, ?_, ?_⟩
  · exact (congrArg (fun l : List UInt8 => (be l : Int)) (show ((udpH d x y ++ r).drop 0).take 2 = putn d.sp 2 from rfl)).trans (be_put2 h1)
  · exact (congrArg (fun l : List UInt8 => (be l : Int)) (show ((udpH d x y ++ r).drop 2).take 2 = putn d.dp 2 from rfl)).trans (be_put2 h2)
  · have h := (congrArg (fun l : List UInt8 => (be l : Int)) (show ((udpH d x y ++ r).drop 4).take 2 = putn ((8 + d.pay.length : Nat) : Int) 2 from rfl)).trans (be_put2 (v := ((8 + d.pay.length : Nat) : Int)) (by omega))
    have h' : (num2 (udpH d x y ++ r) 4 : Int) = ((8 + d.pay.length : Nat) : Int) := h
    omega
  · have h : ((udpH d x y ++ r).drop 6).take 2 = [x, y] := rfl
    unfold num2
    rw [h]
    simp [be]
/-- The sum of a datagram whose own sum counts as 0; what stands in its place. -/
def udpK (ah : List UInt8) (d : Dg) : Nat := cks (ah ++ (udpH d 0 0 ++ d.pay))
def nonzero (k : Nat) : Nat := if k = 0 then 65535 else k
theorem nonzero_in {k : Nat} (h : k ≤ 65535) : 1 ≤ nonzero k ∧ nonzero k ≤ 65535 := by unfold nonzero; split <;> omega
/-- What is built, behind what is thought ahead of it. -/
def udpB (ah : List UInt8) (d : Dg) : List UInt8 := udpH d (UInt8.ofNat (nonzero (udpK ah d) / 256)) (UInt8.ofNat (nonzero (udpK ah d) % 256)) ++ d.pay
theorem udpB_length (ah : List UInt8) (d : Dg) : (udpB ah d).length = 8 + d.pay.length := by unfold udpB; rw [List.length_append, udpH_length]
/-- Two bytes turned into a sum, or into 65,535 where it is 0: then all is 0. -/
theorem cks_mend0 (ah l : List UInt8) (hev : ah.length % 2 = 0) (j : Nat) (hj : j % 2 = 0) (hjl : j + 1 < l.length) (k : Nat) (hk : cks (ah ++ ((l.set j 0).set (j + 1) 0)) = k) :
    cks (ah ++ ((l.set j (UInt8.ofNat (nonzero k / 256))).set (j + 1) (UInt8.ofNat (nonzero k % 256)))) = 0 := by
  unfold nonzero
  by_cases h0 : k = 0
  · rw [if_pos h0, show UInt8.ofNat (65535 / 256) = 255 from rfl]
    obtain ⟨p, hp⟩ : ∃ p, l[j]? = some p := ⟨l[j]'(by omega), List.getElem?_eq_getElem _⟩
    obtain ⟨q, hq⟩ : ∃ q, l[j + 1]? = some q := ⟨l[j + 1]'(by omega), List.getElem?_eq_getElem _⟩
    have t0 := tot_set l j p q 0 0 hj hp hq
    have t1 := tot_set l j p q 255 255 hj hp hq
    rw [cks_append _ _ hev] at hk ⊢
    have z0 : (0 : UInt8).toNat = 0 := rfl
    have z5 : (255 : UInt8).toNat = 255 := rfl
    rw [z0] at t0
    rw [z5] at t1
    have hT : tot ah + tot ((l.set j 255).set (j + 1) 255) = (tot ah + tot ((l.set j 0).set (j + 1) 0)) + 65535 := by omega
    rw [hT]
    have hf := fold_fold (tot ah + tot ((l.set j 0).set (j + 1) 0)) 65535
    have hle := fold_le (tot ah + tot ((l.set j 0).set (j + 1) 0))
    generalize fold (tot ah + tot ((l.set j 0).set (j + 1) 0)) = f at hk hf hle
    rw [← hf, show f + 65535 = 131070 by omega]
    rfl
  · rw [if_neg h0]
    exact cks_mend ah l hev j hj hjl k hk
theorem udpB_sum (ah : List UInt8) (hev : ah.length % 2 = 0) (d : Dg) : cks (ah ++ udpB ah d) = 0 := by
  have h := cks_mend0 ah (udpH d 0 0 ++ d.pay) hev 6 (by omega) (by rw [List.length_append, udpH_length]; omega) (udpK ah d) (by rw [udpH_set]; rfl)
  rw [udpH_set] at h
  exact h
theorem udpB_six {ah : List UInt8} {d : Dg} (hm : mayD d) (r : List UInt8) : num2 (udpB ah d ++ r) 6 ≠ 0 := by
  have hn := nonzero_in (cks_le (ah ++ (udpH d 0 0 ++ d.pay)))
  have h := (udpH_told hm (UInt8.ofNat (nonzero (udpK ah d) / 256)) (UInt8.ofNat (nonzero (udpK ah d) % 256)) (d.pay ++ r)).2.2.2
  have e : udpB ah d ++ r = udpH d (UInt8.ofNat (nonzero (udpK ah d) / 256)) (UInt8.ofNat (nonzero (udpK ah d) % 256)) ++ (d.pay ++ r) := by unfold udpB; rw [List.append_assoc]
  rw [e, h]
  unfold udpK
  simp only [UInt8.toNat_ofNat']
  omega
/-- What is built is parsed, with what stands behind it, too. -/
theorem udpv_built {d : Dg} (hm : mayD d) (ah : List UInt8) (v6 : Bool) (r : List UInt8) {n : Nat} (hn : n = 8 + d.pay.length + r.length) : udpv v6 0 (udpB ah d ++ r) n = (d, ⟨0, 0, false⟩) := by
  have e : udpB ah d ++ r = udpH d (UInt8.ofNat (nonzero (udpK ah d) / 256)) (UInt8.ofNat (nonzero (udpK ah d) % 256)) ++ (d.pay ++ r) := by unfold udpB; rw [List.append_assoc]
  obtain ⟨h0, h2, h4, _⟩ := udpH_told hm (UInt8.ofNat (nonzero (udpK ah d) / 256)) (UInt8.ofNat (nonzero (udpK ah d) % 256)) (d.pay ++ r)
  have h6 := udpB_six (ah := ah) hm r
  rw [← e] at h0 h2 h4
  unfold udpv
  rw [if_neg (by omega), h4, if_neg (by omega), if_neg (fun h => by
    rcases h with ⟨h, _⟩ | ⟨_, h⟩
    · exact h6 h
    · exact h rfl), h0, h2, List.take_append_of_le_length (by rw [udpB_length]; omega), List.take_of_length_le (by rw [udpB_length]; omega)]
  have hd : (udpB ah d).drop 8 = d.pay := by unfold udpB; exact List.drop_left' (udpH_length d _ _)
  rw [hd]
/-- The sum that counts, of what was built. -/
theorem udpO_built {d : Dg} (hm : mayD d) (ah : Nat → List UInt8) (hev : ∀ k, (ah k).length % 2 = 0) (r : List UInt8) : udpO ah (udpB (ah (8 + d.pay.length)) d ++ r) = 0 := by
  have e : udpB (ah (8 + d.pay.length)) d ++ r = udpH d (UInt8.ofNat (nonzero (udpK (ah (8 + d.pay.length)) d) / 256)) (UInt8.ofNat (nonzero (udpK (ah (8 + d.pay.length)) d) % 256)) ++ (d.pay ++ r) := by unfold udpB; rw [List.append_assoc]
  have h4 := (udpH_told hm (UInt8.ofNat (nonzero (udpK (ah (8 + d.pay.length)) d) / 256)) (UInt8.ofNat (nonzero (udpK (ah (8 + d.pay.length)) d) % 256)) (d.pay ++ r)).2.2.1
  rw [← e] at h4
  unfold udpO
  rw [h4, List.take_append_of_le_length (by rw [udpB_length]; omega), List.take_of_length_le (by rw [udpB_length]; omega)]
  exact udpB_sum _ (hev _) d
/-- Without a sum. -/
theorem udpv_none {d : Dg} (hm : mayD d) (ah : List UInt8) (v6 : Bool) (o : Nat) {n : Nat} (hn : n = 8 + d.pay.length) : udpv v6 o (((udpB ah d).set 6 0).set 7 0) n = if v6 = true then (.zero, ⟨8, 6, true⟩) else (d, ⟨0, 0, false⟩) := by
  have e : ((udpB ah d).set 6 0).set 7 0 = udpH d 0 0 ++ d.pay := by unfold udpB; rw [udpH_set]
  obtain ⟨h0, h2, h4, h6⟩ := udpH_told hm 0 0 d.pay
  rw [e]
  have h6' : num2 (udpH d 0 0 ++ d.pay) 6 = 0 := h6
  have hb : udpBad v6 o (udpH d 0 0 ++ d.pay) ↔ v6 = true := by
    unfold udpBad
    rw [h6']
    simp
  unfold udpv
  rw [if_neg (by omega), h4, if_neg (by omega), h0, h2]
  cases v6 with
  | true => rw [if_pos (hb.2 rfl), if_pos rfl]
  | false =>
    rw [if_neg (fun h => by have := hb.1 h; cases this), if_neg (by decide)]
    rw [List.take_of_length_le (by rw [List.length_append, udpH_length]; omega), List.drop_left' (udpH_length d _ _)]
/-- One byte in place of another. -/
theorem tot_byte : ∀ (l : List UInt8) (j : Nat) (p x : UInt8), l[j]? = some p → ∃ c, (c = 1 ∨ c = 256) ∧ tot (l.set j x) + p.toNat * c = tot l + x.toNat * c
  | [], j, p, x, h => by simp at h
  | [a], 0, p, x, h => by
    obtain rfl : a = p := by simpa using h
    exact ⟨256, .inr rfl, by simp [tot]; omega⟩
  | [a], j + 1, p, x, h => by simp at h
  | a :: b :: r, 0, p, x, h => by
    obtain rfl : a = p := by simpa using h
    exact ⟨256, .inr rfl, by simp [tot]; omega⟩
  | a :: b :: r, 1, p, x, h => by
    obtain rfl : b = p := by simpa using h
    exact ⟨1, .inl rfl, by simp [tot]; omega⟩
  | a :: b :: r, j + 2, p, x, h => by
    obtain ⟨c, hc, e⟩ := tot_byte r j p x (by simpa using h)
    exact ⟨c, hc, by simp only [List.set_cons_succ, tot]; omega⟩
/-- A byte that is turned is seen. -/
theorem cks_turned (ah l : List UInt8) (hev : ah.length % 2 = 0) {j : Nat} {p x : UInt8} (hp : l[j]? = some p) (hx : x ≠ p) (h0 : cks (ah ++ l) = 0) : cks (ah ++ l.set j x) ≠ 0 := by
  obtain ⟨c, hc, e⟩ := tot_byte l j p x hp
  rw [cks_append _ _ hev] at h0 ⊢
  have h1 := fold_le (tot ah + tot l)
  have h2 := fold_le (tot ah + tot (l.set j x))
  have hpn := p.toNat_lt
  have hxn := x.toNat_lt
  have hne : x.toNat ≠ p.toNat := fun h => hx (UInt8.toNat_inj.1 h)
  have hd : tot ah + tot l ≠ tot ah + tot (l.set j x) ∧ tot ah + tot l < tot ah + tot (l.set j x) + 65535 ∧ tot ah + tot (l.set j x) < tot ah + tot l + 65535 := by
    rcases hc with rfl | rfl <;> omega
  rcases Nat.lt_or_ge (tot ah + tot l) (tot ah + tot (l.set j x)) with h | h
  · have := fold_ne h hd.2.2
    omega
  · have := fold_ne (show tot ah + tot (l.set j x) < tot ah + tot l by omega) hd.2.1
    omega
end Go.Proofs.YtkeggeiliachgaaDoor

namespace Go.Proofs.YtkeggeiliachgaaDoor
open Go.RowKit
set_option maxRecDepth 100000

theorem num2_set {l : List UInt8} {i j : Nat} (x : UInt8) (hl : i + 2 ≤ l.length) (h1 : j ≠ i) (h2 : j ≠ i + 1) : num2 (l.set j x) i = num2 l i := by
  rw [num2_bat (by rw [List.length_set]; exact hl), num2_bat hl, bat_ne x h1, bat_ne x h2]
/-- A datagram with its sum as it should be, of as many bytes as it says. -/
def mendU (ah : Nat → List UInt8) (l : List UInt8) (n : Nat) : List UInt8 :=
  if n < 8 then l
  else if num2 l 4 < 8 ∨ n < num2 l 4 then l
  else (l.set 6 (UInt8.ofNat (cks (ah (num2 l 4) ++ ((l.set 6 0).set 7 0).take (num2 l 4)) / 256))).set 7 (UInt8.ofNat (cks (ah (num2 l 4) ++ ((l.set 6 0).set 7 0).take (num2 l 4)) % 256))
theorem mendU_length (ah : Nat → List UInt8) (l : List UInt8) (n : Nat) : (mendU ah l n).length = l.length := by
  unfold mendU
  split
  · rfl
  · split
    · rfl
    · rw [List.length_set, List.length_set]
/-- With another length. -/
theorem udpLen {ah : List UInt8} {d : Dg} {u v : UInt8} : num2 (((udpB ah d).set 4 u).set 5 v) 4 = u.toNat * 256 + v.toNat := by
  have hl := udpB_length ah d
  rw [num2_bat (by rw [List.length_set, List.length_set]; omega), bat_ne v (by omega), bat_same u (by omega), bat_same v (by rw [List.length_set]; omega)]
theorem udpv_len_bad {ah : List UInt8} {d : Dg} {u v : UInt8} (v6 : Bool) (o : Nat) (g : Nat → List UInt8) {n k : Nat} (hn : n = 8 + d.pay.length) (hk : u.toNat * 256 + v.toNat = k) (hb : k < 8 ∨ n < k) :
    udpv v6 o (mendU g (((udpB ah d).set 4 u).set 5 v) n) n = (.zero, ⟨7, 4, true⟩) := by
  have h4 := udpLen (ah := ah) (d := d) (u := u) (v := v)
  rw [hk] at h4
  unfold mendU
  rw [if_neg (by omega), h4, if_pos hb]
  unfold udpv
  rw [if_neg (by omega), h4, if_pos hb]
theorem take_set2 (l : List UInt8) (n : Nat) (a b : UInt8) : ((l.set 6 a).set 7 b).take n = ((l.take n).set 6 a).set 7 b := by
  rw [List.take_set, List.take_set]
theorem udpv_len_ok {ah : List UInt8} {d : Dg} {u v : UInt8} (g : Nat → List UInt8) (hev : ∀ k, (g k).length % 2 = 0) {n k : Nat} (hn : n = 8 + d.pay.length) (hk : u.toNat * 256 + v.toNat = k) (h8 : 8 ≤ k) (hkn : k ≤ n) {z : List UInt8} (hz : z = mendU g (((udpB ah d).set 4 u).set 5 v) n) :
    (udpv false (udpO g z) z n).2 = ⟨0, 0, false⟩ ∧ (udpv false (udpO g z) z n).1.pay = d.pay.take (k - 8) := by
  have hl := udpB_length ah d
  have h4 := udpLen (ah := ah) (d := d) (u := u) (v := v)
  rw [hk] at h4
  unfold mendU at hz
  rw [if_neg (by omega), h4, if_neg (by omega)] at hz
  obtain ⟨c, hc⟩ : ∃ c, cks (g k ++ (((((udpB ah d).set 4 u).set 5 v).set 6 0).set 7 0).take k) = c := ⟨_, rfl⟩
  rw [hc] at hz
  have hzl : z.length = n := by rw [hz]; simp only [List.length_set]; omega
  have hz4 : num2 z 4 = k := by
    rw [hz, num2_set _ (by simp only [List.length_set]; omega) (by omega) (by omega), num2_set _ (by simp only [List.length_set]; omega) (by omega) (by omega), h4]
  have hO : udpO g z = 0 := by
    unfold udpO
    rw [hz4, hz, take_set2]
    refine cks_mend (g k) ((((udpB ah d).set 4 u).set 5 v).take k) (hev k) 6 rfl (by rw [List.length_take]; simp only [List.length_set]; omega) c ?_
    rw [← hc, take_set2]
  have hnb : ¬ udpBad false 0 z := by
    unfold udpBad
    simp
  have hd : (z.take k).drop 8 = d.pay.take (k - 8) := by
    rw [List.drop_take, hz, List.drop_set_of_lt (by omega), List.drop_set_of_lt (by omega), List.drop_set_of_lt (by omega), List.drop_set_of_lt (by omega)]
    unfold udpB
    rw [List.drop_left' (udpH_length d _ _)]
  rw [hO]
  unfold udpv
  rw [if_neg (by omega), hz4, if_neg (by omega), if_neg hnb]
  exact ⟨rfl, hd⟩
/-- With a byte turned, not of its length, nor of its sum. -/
theorem udpv_turned {d : Dg} (hm : mayD d) (g : Nat → List UInt8) (hev : ∀ k, (g k).length % 2 = 0) {n j : Nat} (hn : n = 8 + d.pay.length) (hj : j < 4 ∨ 7 < j) {p x : UInt8} (hp : (udpB (g n) d)[j]? = some p) (v6 : Bool) :
    (udpv v6 (udpO g ((udpB (g n) d).set j x)) ((udpB (g n) d).set j x) n).2 = if x = p then ⟨0, 0, false⟩ else ⟨8, 6, true⟩ := by
  have hl := udpB_length (g n) d
  by_cases hx : x = p
  · rw [if_pos hx]
    have hw : (udpB (g n) d).set j x = udpB (g n) d := by
      rw [hx]
      apply List.ext_getElem?
      intro i
      rw [List.getElem?_set]
      split
      · subst_vars
        rw [if_pos (List.getElem?_eq_some_iff.1 hp).1, hp]
      · rfl
    rw [hw]
    have h0 := udpO_built hm g hev []
    have h1 := udpv_built hm (g n) v6 [] (n := n) (by simpa using hn)
    rw [List.append_nil] at h0 h1
    rw [← hn] at h0
    rw [h0, h1]
  · rw [if_neg hx]
    have h4 : num2 ((udpB (g n) d).set j x) 4 = n := by
      rw [num2_set x (by omega) (by omega) (by omega)]
      have := (udpH_told hm (UInt8.ofNat (nonzero (udpK (g n) d) / 256)) (UInt8.ofNat (nonzero (udpK (g n) d) % 256)) d.pay).2.2.1
      rw [hn] at this ⊢
      exact this
    have h6 : num2 ((udpB (g n) d).set j x) 6 ≠ 0 := by
      rw [num2_set x (by omega) (by omega) (by omega)]
      have := udpB_six (ah := g n) hm []
      rw [List.append_nil] at this
      exact this
    have hO : udpO g ((udpB (g n) d).set j x) ≠ 0 := by
      unfold udpO
      rw [h4, List.take_of_length_le (by rw [List.length_set]; omega)]
      exact cks_turned (g n) (udpB (g n) d) (hev n) hp hx (udpB_sum (g n) (hev n) d)
    unfold udpv
    rw [if_neg (by omega), h4, if_neg (by omega), if_pos (show udpBad v6 (udpO g ((udpB (g n) d).set j x)) ((udpB (g n) d).set j x) from Or.inr ⟨h6, hO⟩)]
end Go.Proofs.YtkeggeiliachgaaDoor
