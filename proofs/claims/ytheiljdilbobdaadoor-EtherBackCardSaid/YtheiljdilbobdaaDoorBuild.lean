/-
  ether.fits, Build: the frame of a kind, tags, and what it bears, or why there is none. Conditions: those of the slices; the tags stand in memory.
-/
import Derived.Test.YtheiljdilbobdaaDoorEther
import Derived.Test.YtheiljdilbobdaaDoorPut
import Derived.Test.YtheiljdilbobdaaDoorSame
import Derived.OwnWalk
namespace Go.Proofs.YtheiljdilbobdaaDoor
open Go.RowKit

/-- Ints that stand in memory. -/
def Zs (w : World) (A : Option Addr) (n : Nat) (zs : List Int) : Prop := zs.length = n ∧ n ≤ maxLen ∧ ∀ (i : Nat) (z : Int), zs[i]? = some z → ∃ b off, A = some ⟨b, off, none⟩ ∧ w.cell? ⟨b, off + i, none⟩ = some (.int .i64 z)
theorem Zs.later {w w' : World} {B : Nat} {A : Option Addr} {n : Nat} {zs : List Int} (h : Zs w A n zs) (hb : Below B w w') (hB : w.heap.size ≤ B) : Zs w' A n zs :=
  ⟨h.1, h.2.1, fun i z hi => by
    obtain ⟨b, off, e, hc⟩ := h.2.2 i z hi
    have hlt : b < w.heap.size := lt_of_cell hc
    exact ⟨b, off, e, by rw [hb.cell (p := ⟨b, off + i, none⟩) (by show b < B; omega), hc]⟩⟩

/-- Has a number room in two bytes? -/
def fit (z : Int) : Prop := 0 ≤ z ∧ z ≤ 65535
instance (z : Int) : Decidable (fit z) := by unfold fit; infer_instance
theorem fits_any (v : Int) (w : World) : Calls Tryd.prog 20 #[.int .i64 v] w fun e w' => e = .returned (.bool (decide (fit v))) ∧ w = w' := by
  rcases (show fit v ∨ v < 0 ∨ 0 ≤ v ∧ 65535 < v by unfold fit; omega) with h | h | ⟨h, h2⟩
  · obtain ⟨h1, h2⟩ := h
    rw [decide_eq_true (show fit v from ⟨h1, h2⟩)]
    go_enter Tryd.func20, Tryd.ntmps20
    go_wp2_with fail
    go_ret
    exact ⟨rfl, rfl⟩
  · rw [decide_eq_false (show ¬ fit v by unfold fit; omega)]
    go_enter Tryd.func20, Tryd.ntmps20
    go_wp2_with fail
    go_ret
    exact ⟨rfl, rfl⟩
  · rw [decide_eq_false (show ¬ fit v by unfold fit; omega)]
    go_enter Tryd.func20, Tryd.ntmps20
    go_wp2_with fail
    go_ret
    exact ⟨by show Ending.returned (Value.bool (decide (v ≤ 65535))) = _; rw [decide_eq_false (by omega)], rfl⟩

/-- Tags as they stand in a frame. -/
def tagsv (zs : List Int) : List UInt8 := zs.flatMap fun z => putn 33024 2 ++ putn z 2
theorem tagsv_length (zs : List Int) : (tagsv zs).length = 4 * zs.length := by
  induction zs with
  | nil => rfl
  | cons z zs ih => rw [show tagsv (z :: zs) = (putn 33024 2 ++ putn z 2) ++ tagsv zs from rfl, List.length_append, ih]; simp [putn_length]; omega
theorem tagsv_take {zs : List Int} {k : Nat} {z : Int} (h : zs[k]? = some z) : tagsv (zs.take (k + 1)) = tagsv (zs.take k) ++ putn 33024 2 ++ putn z 2 := by
  rw [List.take_add_one, h]; simp [tagsv, List.flatMap_append]
def zero12 : List UInt8 := List.replicate 12 0
def headv (kind : Int) (zs : List Int) : List UInt8 := zero12 ++ tagsv zs ++ putn kind 2
/-- May that be built? -/
def mayBuild (kind : Int) (zs : List Int) (n : Nat) : Prop := fit kind ∧ kind ≠ 33024 ∧ zs.length ≤ 2 ∧ (∀ z ∈ zs, fit z) ∧ 14 + 4 * zs.length + n ≤ 2000
instance (kind : Int) (zs : List Int) (n : Nat) : Decidable (mayBuild kind zs n) := by unfold mayBuild; infer_instance
def buildv (kind : Int) (zs : List Int) (l : List UInt8) (n : Nat) : List UInt8 := if mayBuild kind zs n then headv kind zs ++ l else []
def builte (kind : Int) (zs : List Int) (n : Nat) : Fl := if mayBuild kind zs n then ⟨0, 0, false⟩ else ⟨1, 0, false⟩

theorem build_no {kind : Int} {zs : List Int} {l : List UInt8} {n : Nat} (h : ¬ mayBuild kind zs n) : buildv kind zs l n = [] ∧ builte kind zs n = ⟨1, 0, false⟩ := ⟨if_neg h, if_neg h⟩
theorem build_yes {kind : Int} {zs : List Int} {l : List UInt8} {n : Nat} (h : mayBuild kind zs n) : buildv kind zs l n = headv kind zs ++ l ∧ builte kind zs n = ⟨0, 0, false⟩ := ⟨if_pos h, if_pos h⟩
/-- Where it may not be built. -/
theorem build_refuses {w w0 : World} {kind : Int} {zs : List Int} {l : List UInt8} {n : Nat} (h : ¬ mayBuild kind zs n) (hb : Below w0.heap.size w0 w) : ∃ A' n' c' v, Ending.returned (.tuple #[.slice none 0 0, .iface 30 (.int .i64 1)]) = .returned (.tuple #[.slice A' n' c', v]) ∧ Bs w A' n' c' (buildv kind zs l n) ∧ Tells w v (builte kind zs n) ∧ Below w0.heap.size w0 w :=
  ⟨_, _, _, _, rfl, by rw [(build_no (l := l) h).1]; exact Bs.nil _, by rw [(build_no (l := l) h).2]; exact Tells.bare _ 1 (by decide) 0, hb⟩

set_option maxRecDepth 100000 in
set_option maxHeartbeats 1000000 in
theorem build_ether {A B : Option Addr} {n c m d : Nat} {l : List UInt8} {zs : List Int} {w : World} (kind : Int) (hz : Zs w B m zs) (hb : Bs w A n c l) : Calls Tryd.prog 10 #[.int .i64 kind, .slice B m d, .slice A n c] w fun e w' =>
    ∃ A' n' c' v, e = .returned (.tuple #[.slice A' n' c', v]) ∧ Bs w' A' n' c' (buildv kind zs l n) ∧ Tells w' v (builte kind zs n) ∧ Below w.heap.size w w' := by
  have hm := Nat.le_trans hb.cap hb.max
  have hm2 := hz.2.1
  have hzl := hz.1
  unfold maxLen at hm hm2
  have HB := Lib.hid (And.intro hb hz)
  have HF := Lib.hid (fits_any kind)
  clear hb hz
  by_cases hk : fit kind
  case neg =>
    have HNO := Lib.hid (show ¬ mayBuild kind zs n from fun h => hk h.1)
    rw [decide_eq_false hk] at HF
    clear hk hzl
    go_enter Tryd.func10, Tryd.ntmps10
    go_wp2_with fail
    refine (HF.out _).mono ?_
    rintro e w' ⟨rfl, rfl⟩
    go_wp2_with fail
    go_ret2
    exact build_refuses HNO.out (Below.refl _ _)
  rw [decide_eq_true hk] at HF
  by_cases hk2 : kind = 33024
  · have HNO := Lib.hid (show ¬ mayBuild kind zs n from fun h => h.2.1 hk2)
    subst hk2
    clear hk hzl
    go_enter Tryd.func10, Tryd.ntmps10
    go_wp2_with fail
    refine (HF.out _).mono ?_
    rintro e w' ⟨rfl, rfl⟩
    go_wp2_with fail
    go_ret2
    exact build_refuses HNO.out (Below.refl _ _)
  by_cases hm3 : 2 < m
  · have HNO := Lib.hid (show ¬ mayBuild kind zs n from fun h => by have := h.2.2.1; omega)
    clear hk hzl
    go_enter Tryd.func10, Tryd.ntmps10
    go_wp2_with fail
    refine (HF.out _).mono ?_
    rintro e w' ⟨rfl, rfl⟩
    go_wp2_with fail
    go_ret2
    exact build_refuses HNO.out (Below.refl _ _)
  have hb0 : (kind == 33024) = false := by simp [hk2]
  have hb1 : decide ((2 : Int) < (m : Int)) = false := by simp; omega
  have HK := Lib.hid (And.intro hk hzl)
  clear hk hzl
  obtain ⟨i0, hi, hz0, hz1, hz2⟩ := info_parts info5
  have HI := Lib.hid (And.intro hi (And.intro hz0 (And.intro hz1 hz2)))
  clear hi hz0 hz1 hz2
  go_enter Tryd.func10, Tryd.ntmps10
  go_wp2_with fail
  refine (HF.out _).mono ?_
  rintro e w' ⟨rfl, rfl⟩
  go_wp2_with (refine wpList_make_full _ rfl (.const (.int .i64 12)) (.const (.int .i64 12)) 22 rfl w.heap.size 5 i0 _ 1 Tryd.underlying22 HI.out.1 HI.out.2.1 HI.out.2.2.1 .i64 .i64 _ _ 12 rfl rfl rfl rfl (by rw [HI.out.2.2.2]; omega) (by unfold maxLen; omega) (Nat.le_refl _) ?_; intro w1 o1 g1; have H1 := Lib.hid (And.intro o1 g1); clear o1 g1)
  have hz12 : (madeCells (Value.int IntKind.u8 0).cells (12 * 1)).toList = bv zero12 := by kernel_rfl
  have ho := H1.out.1
  rw [hz12] at ho
  have H2 := Lib.hid (And.intro ho (below_of_grown H1.out.2))
  clear hz12 ho
  go_loopw [8, 27] (fun h i wr => ∃ k : Nat, k ≤ m ∧ i = .int .i64 k ∧ wr.ownsRow w.heap.size 5 1 h (12 + 4 * k) (bv (zero12 ++ tagsv (zs.take k))) ∧ Below w.heap.size w wr ∧ ∀ z ∈ zs.take k, fit z) (fun _ i _ => m - (intOf i).toNat)
  case atStart => exact ⟨0, Nat.zero_le _, rfl, by simpa [tagsv] using H2.out.1, H2.out.2, by simp⟩
  case round =>
    obtain ⟨k, hkm, rfl, ho, hb, hf⟩ := hrel
    obtain ⟨A1, c1, rfl, hB1⟩ := Bs.of_own ho
    by_cases hlt : k < m
    · obtain ⟨z, hzk⟩ : ∃ z, zs[k]? = some z := ⟨zs[k]'(by rw [HK.out.2]; exact hlt), List.getElem?_eq_getElem _⟩
      obtain ⟨b, off, rfl, hc⟩ := (HB.out.2.later hb (Nat.le_refl _)).2.2 k z hzk
      have HZ := Lib.hid (And.intro (tagsv_take hzk) (And.intro hB1 (And.intro hb (And.intro hf hzk))))
      clear hB1 hb hf ho hzk
      have HFz := Lib.hid (fits_any z)
      by_cases hz : fit z
      · rw [decide_eq_true hz] at HFz
        have HFIT := Lib.hid hz
        clear hz
        go_wp2_with fail
        refine (HFz.out _).mono ?_
        rintro e w' ⟨rfl, rfl⟩
        go_wp2_with fail
        refine (put16_any HZ.out.2.1 33024 (by omega)).mono ?_
        rintro e w2 ⟨v2, rfl, o2, b2⟩
        obtain ⟨A2, c2, rfl, hB2⟩ := Bs.of_own o2
        have H3 := Lib.hid (And.intro hB2 (HZ.out.2.2.1.trans (b2.mono HZ.out.2.2.1.size)))
        clear o2 b2 hB2
        go_wp2_with fail
        refine (put16_any H3.out.1 z (by omega)).mono ?_
        rintro e w3 ⟨v3, rfl, o3, b3⟩
        have H4 := Lib.hid (And.intro (owns_base o3 H3.out.2.size) (H3.out.2.trans (b3.mono H3.out.2.size)))
        clear o3 b3
        go_wp2_with fail
        refine ⟨⟨k + 1, hlt, by go_num, ?_, H4.out.2, ?_⟩, by simp [intOf]; omega⟩
        · rw [HZ.out.1, ← List.append_assoc, ← List.append_assoc]
          exact owns_n (by omega) H4.out.1
        · rw [List.take_add_one, HZ.out.2.2.2.2]
          intro y hy
          rcases List.mem_append.1 hy with h | h
          · exact HZ.out.2.2.2.1 y h
          · obtain rfl : y = z := by simpa using h
            exact HFIT.out
      · have hno : ¬ mayBuild kind zs n := fun h => hz (h.2.2.2.1 z (List.mem_of_getElem? HZ.out.2.2.2.2))
        have HNO := Lib.hid hno
        rw [decide_eq_false hz] at HFz
        clear hz hno
        go_wp2_with fail
        refine (HFz.out _).mono ?_
        rintro e w' ⟨rfl, rfl⟩
        go_wp2_with fail
        go_ret2
        exact build_refuses HNO.out HZ.out.2.2.1
    · obtain rfl : k = m := by omega
      rw [List.take_of_length_le (by rw [HK.out.2]; exact Nat.le_refl _)] at hB1 hf
      have HZ := Lib.hid (And.intro hB1 (And.intro hb hf))
      clear hB1 hb hf ho
      go_wp2_with fail
      refine (put16_any HZ.out.1 kind (by omega)).mono ?_
      rintro e w2 ⟨v2, rfl, o2, b2⟩
      obtain ⟨A2, c2, rfl, hB2⟩ := Bs.of_own o2
      have H3 := Lib.hid (And.intro hB2 (HZ.out.2.1.trans (b2.mono HZ.out.2.1.size)))
      clear o2 b2 hB2
      by_cases hbig : 2000 < 14 + 4 * k + n
      · have hno : ¬ mayBuild kind zs n := fun h => by have := h.2.2.2.2; have := HK.out.2; omega
        have HNO := Lib.hid hno
        clear hno
        have hq : (2000 : Int) - ((12 + 4 * k + 2 : Nat) : Int) < (n : Int) := by omega
        go_wp2_with fail
        go_ret2
        exact build_refuses HNO.out H3.out.2
      · have hyes : mayBuild kind zs n := ⟨HK.out.1, hk2, by have := HK.out.2; omega, HZ.out.2.2, by have := HK.out.2; omega⟩
        have HY := Lib.hid hyes
        clear hyes
        have hq : ¬ (2000 : Int) - ((12 + 4 * k + 2 : Nat) : Int) < (n : Int) := by omega
        go_wp2_with fail
        have hp : Pieces (w2.alloc (.cells #[.slice A2 (12 + 4 * k + 2) c2, .slice A n c] 22)) w2.heap.size [⟨A2, 12 + 4 * k + 2, c2, headv kind zs⟩, ⟨A, n, c, l⟩] := by
          intro i p hp
          match i, hp with
          | 0, hp => obtain rfl := Option.some.inj hp.symm; exact ⟨by simp, H3.out.1.later ((Below.refl _ w2).alloc (Nat.le_refl _) _) (Nat.le_refl _)⟩
          | 1, hp => obtain rfl := Option.some.inj hp.symm; exact ⟨by simp, (HB.out.1.later H3.out.2 (Nat.le_refl _)).later ((Below.refl _ w2).alloc (Nat.le_refl _) _) (Nat.le_refl _)⟩
          | i + 2, hp => simp at hp
        have hc := concat_any w2.heap.size 2 2 _ _ rfl (by omega) hp (by simp [total]; omega)
        refine hc.mono ?_
        rintro e w3 ⟨v3, rfl, o3, b3⟩
        obtain ⟨A3, c3, rfl, hB3⟩ := Bs.of_own (by simpa [total, flat] using o3)
        have H4 := Lib.hid (And.intro hB3 ((H3.out.2.alloc H3.out.2.size _).trans (b3.mono (H3.out.2.alloc H3.out.2.size _).size)))
        clear o3 b3 hB3 hc hp
        go_wp2_with fail
        go_ret2
        exact ⟨_, _, _, _, rfl, by rw [(build_yes (l := l) HY.out).1]; exact H4.out.1, by rw [(build_yes (l := l) HY.out).2]; exact Tells.nil _ _ _, H4.out.2⟩
end Go.Proofs.YtheiljdilbobdaaDoor
