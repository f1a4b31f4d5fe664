/-
  Package ip6's Build: the packet of version 6, or why there is none. Conditions: those of the slices.
-/
import Derived.Test.YtceigepclemdmaaDoorSm7
import Derived.Test.YtceigepclemdmaaDoorCatZ
import Derived.Test.YtceigepclemdmaaDoorSame
import Derived.Test.YtceigepclemdmaaDoorReg
namespace Go.Proofs.YtceigepclemdmaaDoor
open Go.RowKit
set_option maxRecDepth 100000

noncomputable instance (sv dv : Bool) (proto : Int) (ks : List Int) (n : Nat) : Decidable (may6 sv dv proto ks n) := Classical.propDecidable _
noncomputable def build6v (sv dv : Bool) (a b : List UInt8) (proto : Int) (ks : List Int) (n : Nat) (l : List UInt8) : List UInt8 := if may6 sv dv proto ks n then built6 a b proto ks n l else []
noncomputable def build6e (sv dv : Bool) (proto : Int) (ks : List Int) (n : Nat) : Fl := if may6 sv dv proto ks n then ⟨0, 0, false⟩ else ⟨1, 0, false⟩
/-- What Build hands back. -/
def BldR (sv dv : Bool) (a b : List UInt8) (proto : Int) (ks : List Int) (n : Nat) (l : List UInt8) (w : World) (e : Ending) (w' : World) : Prop :=
  ∃ A' n' c' v, e = .returned (.tuple #[.slice A' n' c', v]) ∧ Bs w' A' n' c' (build6v sv dv a b proto ks n l) ∧ Tells w' v (build6e sv dv proto ks n) ∧ Below w.heap.size w w'
theorem bld_refuses {w w0 : World} {sv dv : Bool} {a b : List UInt8} {proto : Int} {ks : List Int} {n : Nat} {l : List UInt8} (h : ¬ may6 sv dv proto ks n) (hb : Below w0.heap.size w0 w) : BldR sv dv a b proto ks n l w0 (.returned (.tuple #[.slice none 0 0, .iface 34 (.int .i64 1)])) w := by
  refine ⟨_, _, _, _, rfl, ?_, ?_, hb⟩
  · unfold build6v; rw [if_neg h]; exact Bs.nil _
  · unfold build6e; rw [if_neg h]; exact Tells.bare _ 1 (by decide) 0

/-- The load of an address out of its box, behind a guard that lets it. -/
theorem wpList_load_ad_w {ops : Array Oper} {rest : List Oper} {o : Oper} {a : Act} {w : World} {Q : Exit → Act → World → Prop} (hw : Region.wanted o (yielded ops a.tmps) = true) (x : Operand) (ho : o.op = .load 25 x) {g : Nat} {v6 : Bool} {bs : List UInt8}
    (hx : a.eval x = .pointer (some ⟨g, 0, none⟩)) (hA : AdBox w g v6 bs) (h : wpList Tryd.prog ops Q rest (a.put o.dst (.agg (adv v6 bs))) w) : wpList Tryd.prog ops Q (o :: rest) a w := by
  have h1 := wp_load_mid (P := Tryd.prog) (op := o) (a := a) (w := w) (K := wpList Tryd.prog ops Q rest) (Q := Q) 25 x ho g 0 hx (adv v6 bs).toList _ hA.range Tryd.underlying25 rfl (by rw [Array.length_toList]; exact ad_size v6 hA.2) (by simpa using h)
  unfold wpList
  rw [if_pos hw]
  exact .inl h1
theorem turnv_all {z : Int} {k : Nat} (h : turnv z k = 0) : ext z ∧ (z = 0 → k = 0) ∧ k < 8 := by
  by_cases hx : ext z
  · by_cases h0 : z = 0
    · subst h0
      by_cases hk : 0 < (k : Int)
      · rw [turnv_first hk] at h; cases h
      · exact ⟨hx, fun _ => by omega, by omega⟩
    · by_cases h8 : 8 ≤ (k : Int)
      · rw [turnv_deep hx h0 h8] at h; cases h
      · exact ⟨hx, fun h => absurd h h0, by omega⟩
  · rw [turnv_no hx] at h; cases h
theorem turnv_may {sv dv : Bool} {proto : Int} {ks : List Int} {n k : Nat} {z : Int} (hz : ks[k]? = some z) (h : turnv z k ≠ 0) : ¬ may6 sv dv proto ks n := fun hm => by
  obtain ⟨_, _, _, _, h8, hk, _⟩ := hm
  obtain ⟨hx, h0⟩ := hk k z hz
  have hlt := (List.getElem?_eq_some_iff.1 hz).1
  refine h ?_
  by_cases hz0 : z = 0
  · subst hz0
    exact turnv_zero (by have := h0 rfl; omega)
  · exact turnv_ok hx hz0 (by omega)
theorem ev_held {c : Int} (h : c ≠ 0) : ev c = .iface 34 (.int .i64 c) := if_neg h

/-- Two parts of ints, the second one a literal of one, as a call of slices.Concat lays them. -/
theorem piecesZ_lit {w : World} {A : Option Addr} {n c : Nat} {l : List Int} (hb : Gs w A n c (zv l)) (p : Int) (T U : TypeId) :
    PiecesI ((w.alloc (.cells #[.int .i64 p] T)).alloc (.cells #[.slice A n c, .slice (some ⟨w.heap.size, 0, none⟩) 1 1] U)) (w.heap.size + 1) [⟨A, n, c, l⟩, ⟨some ⟨w.heap.size, 0, none⟩, 1, 1, [p]⟩] := by
  have hb0 : Below (w.heap.size + 1) (w.alloc (.cells #[.int .i64 p] T)) ((w.alloc (.cells #[.int .i64 p] T)).alloc (.cells #[.slice A n c, .slice (some ⟨w.heap.size, 0, none⟩) 1 1] U)) := (Below.refl _ _).alloc (by simp) _
  have hb1 : Below w.heap.size w ((w.alloc (.cells #[.int .i64 p] T)).alloc (.cells #[.slice A n c, .slice (some ⟨w.heap.size, 0, none⟩) 1 1] U)) := ((Below.refl _ _).alloc (Nat.le_refl _) _).alloc (by simp) _
  intro i q hq
  match i, hq with
  | 0, hq =>
    obtain rfl := Option.some.inj hq.symm
    exact ⟨by rw [World.cell?_alloc_at _ _ _ _ (by simp)]; rfl, hb.later hb1 (Nat.le_refl _)⟩
  | 1, hq =>
    obtain rfl := Option.some.inj hq.symm
    exact ⟨by rw [World.cell?_alloc_at _ _ _ _ (by simp)]; rfl, (Gs.lit w (zv [p]) 1 rfl (by unfold maxLen; omega) #[.int .i64 p] rfl T).later hb0 (by simp)⟩
  | k + 2, hq => simp at hq

/-- Four parts, as a call of slices.Concat lays them. -/
theorem pieces4 {w : World} {p0 p1 p2 p3 : Piece} (h0 : Bs w p0.A p0.n p0.c p0.l) (h1 : Bs w p1.A p1.n p1.c p1.l) (h2 : Bs w p2.A p2.n p2.c p2.l) (h3 : Bs w p3.A p3.n p3.c p3.l) (U : TypeId) :
    Pieces (w.alloc (.cells #[p0.v, p1.v, p2.v, p3.v] U)) w.heap.size [p0, p1, p2, p3] := by
  have hb : Below w.heap.size w (w.alloc (.cells #[p0.v, p1.v, p2.v, p3.v] U)) := (Below.refl _ _).alloc (Nat.le_refl _) _
  intro i q hq
  match i, hq with
  | 0, hq => obtain rfl := Option.some.inj hq.symm; exact ⟨by rw [World.cell?_alloc_at _ _ _ _ rfl]; rfl, h0.later hb (Nat.le_refl _)⟩
  | 1, hq => obtain rfl := Option.some.inj hq.symm; exact ⟨by rw [World.cell?_alloc_at _ _ _ _ rfl]; rfl, h1.later hb (Nat.le_refl _)⟩
  | 2, hq => obtain rfl := Option.some.inj hq.symm; exact ⟨by rw [World.cell?_alloc_at _ _ _ _ rfl]; rfl, h2.later hb (Nat.le_refl _)⟩
  | 3, hq => obtain rfl := Option.some.inj hq.symm; exact ⟨by rw [World.cell?_alloc_at _ _ _ _ rfl]; rfl, h3.later hb (Nat.le_refl _)⟩
  | k + 4, hq => simp at hq
theorem pieces2 {w : World} {p0 p1 : Piece} (h0 : Bs w p0.A p0.n p0.c p0.l) (h1 : Bs w p1.A p1.n p1.c p1.l) (U : TypeId) :
    Pieces (w.alloc (.cells #[p0.v, p1.v] U)) w.heap.size [p0, p1] := by
  have hb : Below w.heap.size w (w.alloc (.cells #[p0.v, p1.v] U)) := (Below.refl _ _).alloc (Nat.le_refl _) _
  intro i q hq
  match i, hq with
  | 0, hq => obtain rfl := Option.some.inj hq.symm; exact ⟨by rw [World.cell?_alloc_at _ _ _ _ rfl]; rfl, h0.later hb (Nat.le_refl _)⟩
  | 1, hq => obtain rfl := Option.some.inj hq.symm; exact ⟨by rw [World.cell?_alloc_at _ _ _ _ rfl]; rfl, h1.later hb (Nat.le_refl _)⟩
  | k + 2, hq => simp at hq
theorem ub_lit (k : Int) : [Value.int .u8 (IntKind.u8.wrap k), Value.int .u8 64] = bv [ub k, 64] := by
  rw [show bv [ub k, 64] = [.int .u8 ((ub k).toNat : Int), .int .u8 64] from rfl, ub_cell]; rfl
theorem ub_lit8 (k : Int) : [Value.int .u8 (IntKind.u8.wrap k), Value.int .u8 0, Value.int .u8 0, Value.int .u8 0, Value.int .u8 0, Value.int .u8 0, Value.int .u8 0, Value.int .u8 0] = bv (ub k :: List.replicate 7 0) := by
  rw [show bv (ub k :: List.replicate 7 0) = [.int .u8 ((ub k).toNat : Int), .int .u8 0, .int .u8 0, .int .u8 0, .int .u8 0, .int .u8 0, .int .u8 0, .int .u8 0] from rfl, ub_cell]; rfl

set_option maxHeartbeats 2000000 in
theorem build_ip6 {A B : Option Addr} {n c m d : Nat} {l : List UInt8} {zs : List Int} {w : World} (sv dv : Bool) {sb db : List UInt8} (hsb : sb.length = 16) (hdb : db.length = 16) (proto : Int) (hz : Gs w B m d (zv zs)) (hb : Bs w A n c l) :
    Calls Tryd.prog 9 #[.agg (adv sv sb), .agg (adv dv db), .int .i64 proto, .slice B m d, .slice A n c] w (BldR sv dv sb db proto zs n l w) := by
  have hm := Nat.le_trans hb.cap hb.max
  have hm2 := Nat.le_trans hz.cap hz.max
  have hzl : zs.length = m := by rw [← zv_length]; exact hz.len
  unfold maxLen at hm hm2
  have HB := Lib.hid (And.intro hb hz)
  have HL := Lib.hid hzl
  clear hb hz hzl
  have A1 := AdBox.new w sv hsb
  have B1 : Below w.heap.size w (w.alloc (.cells (adv sv sb) 25)) := (Below.refl _ _).alloc (Nat.le_refl _) _
  have A2 := AdBox.new (w.alloc (.cells (adv sv sb) 25)) dv hdb
  rw [World.size_alloc] at A2
  have B2 : Below (w.heap.size + 1) (w.alloc (.cells (adv sv sb) 25)) ((w.alloc (.cells (adv sv sb) 25)).alloc (.cells (adv dv db) 25)) := (Below.refl _ _).alloc (by simp) _
  have HA := Lib.hid (And.intro (A1.later B2 (by simp)) (And.intro A2 (B1.trans (B2.mono (by omega)))))
  clear A1 B1 A2 B2
  have M1 := Lib.hid (may_any sv sb hsb)
  have M2 := Lib.hid (may_any dv db hdb)
  have M3 := isHead_any proto
  cases sv with
  | false =>
    have HNO := Lib.hid (show ¬ may6 false dv proto zs n from fun h => by cases h.1)
    go_enter Tryd.func9, Tryd.ntmps9
    go_wp2_with (refine wpList_load_ad rfl (.tmp 5) rfl rfl HA.out.1 ?_)
    refine (M1.out _).mono ?_
    rintro e w1 ⟨rfl, b1⟩
    have H1 := Lib.hid (HA.out.2.2.trans (b1.mono HA.out.2.2.size))
    clear b1
    go_wp2_with fail
    go_ret2
    exact bld_refuses HNO.out H1.out
  | true =>
  cases dv with
  | false =>
    have HNO := Lib.hid (show ¬ may6 true false proto zs n from fun h => by cases h.2.1)
    go_enter Tryd.func9, Tryd.ntmps9
    go_wp2_with (refine wpList_load_ad rfl (.tmp 5) rfl rfl HA.out.1 ?_)
    refine (M1.out _).mono ?_
    rintro e w1 ⟨rfl, b1⟩
    have H1 := Lib.hid (And.intro (HA.out.2.1.later b1 (Nat.le_refl _)) (HA.out.2.2.trans (b1.mono HA.out.2.2.size)))
    clear b1
    go_wp2_with (refine wpList_load_ad_w rfl (.tmp 6) rfl rfl H1.out.1 ?_)
    refine (M2.out _).mono ?_
    rintro e w2 ⟨rfl, b1⟩
    have H2 := Lib.hid (H1.out.2.trans (b1.mono H1.out.2.size))
    clear b1
    go_wp2_with fail
    go_ret2
    exact bld_refuses HNO.out H2.out
  | true =>
  rcases (show proto < 0 ∨ 0 ≤ proto ∧ 255 < proto ∨ (0 ≤ proto ∧ proto ≤ 255) by omega) with hp | ⟨hp, hp2⟩ | ⟨hp, hp2⟩
  · have HNO := Lib.hid (show ¬ may6 true true proto zs n from fun h => by have := h.2.2.1; omega)
    clear M3
    go_enter Tryd.func9, Tryd.ntmps9
    go_wp2_with (refine wpList_load_ad rfl (.tmp 5) rfl rfl HA.out.1 ?_)
    refine (M1.out _).mono ?_
    rintro e w1 ⟨rfl, b1⟩
    have H1 := Lib.hid (And.intro (HA.out.2.1.later b1 (Nat.le_refl _)) (HA.out.2.2.trans (b1.mono HA.out.2.2.size)))
    clear b1
    go_wp2_with (refine wpList_load_ad_w rfl (.tmp 6) rfl rfl H1.out.1 ?_)
    refine (M2.out _).mono ?_
    rintro e w2 ⟨rfl, b1⟩
    have H2 := Lib.hid (H1.out.2.trans (b1.mono H1.out.2.size))
    clear b1
    go_wp2_with fail
    go_ret2
    exact bld_refuses HNO.out H2.out
  · have HNO := Lib.hid (show ¬ may6 true true proto zs n from fun h => by have := h.2.2.1; omega)
    clear M3
    go_enter Tryd.func9, Tryd.ntmps9
    go_wp2_with (refine wpList_load_ad rfl (.tmp 5) rfl rfl HA.out.1 ?_)
    refine (M1.out _).mono ?_
    rintro e w1 ⟨rfl, b1⟩
    have H1 := Lib.hid (And.intro (HA.out.2.1.later b1 (Nat.le_refl _)) (HA.out.2.2.trans (b1.mono HA.out.2.2.size)))
    clear b1
    go_wp2_with (refine wpList_load_ad_w rfl (.tmp 6) rfl rfl H1.out.1 ?_)
    refine (M2.out _).mono ?_
    rintro e w2 ⟨rfl, b1⟩
    have H2 := Lib.hid (H1.out.2.trans (b1.mono H1.out.2.size))
    clear b1
    go_wp2_with fail
    go_ret2
    exact bld_refuses HNO.out H2.out
  by_cases hx : ext proto
  · have HNO := Lib.hid (show ¬ may6 true true proto zs n from fun h => h.2.2.2.1 hx)
    rw [decide_eq_true hx] at M3
    have M3 := Lib.hid M3
    clear hx
    go_enter Tryd.func9, Tryd.ntmps9
    go_wp2_with (refine wpList_load_ad rfl (.tmp 5) rfl rfl HA.out.1 ?_)
    refine (M1.out _).mono ?_
    rintro e w1 ⟨rfl, b1⟩
    have H1 := Lib.hid (And.intro (HA.out.2.1.later b1 (Nat.le_refl _)) (HA.out.2.2.trans (b1.mono HA.out.2.2.size)))
    clear b1
    go_wp2_with (refine wpList_load_ad_w rfl (.tmp 6) rfl rfl H1.out.1 ?_)
    refine (M2.out _).mono ?_
    rintro e w2 ⟨rfl, b1⟩
    have H2 := Lib.hid (H1.out.2.trans (b1.mono H1.out.2.size))
    clear b1
    go_wp2_with fail
    refine (M3.out _).mono ?_
    rintro e w' ⟨rfl, rfl⟩
    go_wp2_with fail
    go_ret2
    exact bld_refuses HNO.out H2.out
  rw [decide_eq_false hx] at M3
  have M3 := Lib.hid M3
  have HX := Lib.hid hx
  have HT := Lib.hid turn_any
  clear hx
  go_enter Tryd.func9, Tryd.ntmps9
  go_wp2_with (refine wpList_load_ad rfl (.tmp 5) rfl rfl HA.out.1 ?_)
  refine (M1.out _).mono ?_
  rintro e w1 ⟨rfl, b1⟩
  have H1 := Lib.hid (And.intro (HA.out.2.1.later b1 (Nat.le_refl _)) (And.intro (HA.out.2.2.trans (b1.mono HA.out.2.2.size)) (HA.out.1.later b1 (Nat.le_refl _))))
  clear b1
  go_wp2_with (refine wpList_load_ad_w rfl (.tmp 6) rfl rfl H1.out.1 ?_)
  refine (M2.out _).mono ?_
  rintro e w2 ⟨rfl, b1⟩
  have H2 := Lib.hid (And.intro (H1.out.1.later b1 (Nat.le_refl _)) (And.intro (H1.out.2.1.trans (b1.mono H1.out.2.1.size)) (H1.out.2.2.later b1 (Nat.le_refl _))))
  clear b1
  go_wp2_with fail
  refine (M3.out _).mono ?_
  rintro e w' ⟨rfl, rfl⟩
  go_wp2_with fail
  go_loopw [42] (fun i wr => ∃ k : Nat, k ≤ m ∧ i = .int .i64 k ∧ wr = w2 ∧ Hid (∀ (j : Nat) (z : Int), j < k → zs[j]? = some z → ext z ∧ (z = 0 → j = 0) ∧ j < 8)) (fun i _ => m - (intOf i).toNat)
  case atStart => exact ⟨0, Nat.zero_le _, rfl, rfl, fun j z h => by omega⟩
  case round =>
    obtain ⟨k, hkm, rfl, rfl, hk⟩ := hrel
    by_cases hlt : k < m
    · obtain ⟨z, hzk⟩ : ∃ z, zs[k]? = some z := ⟨zs[k]'(by rw [HL.out]; exact hlt), List.getElem?_eq_getElem _⟩
      obtain ⟨b, off, rfl, hc⟩ := (HB.out.2.later H2.out.2.1 (Nat.le_refl _)).get (zv_at hzk)
      have ht := turn_any z k
      by_cases h0 : turnv z k = 0
      · rw [h0, show ev 0 = .nilIface from rfl] at ht
        have HT' := Lib.hid ht
        have HK := Lib.hid (show ∀ (j : Nat) (z : Int), j < k + 1 → zs[j]? = some z → ext z ∧ (z = 0 → j = 0) ∧ j < 8 from fun j y hj hy => by
          by_cases hjk : j = k
          · subst hjk
            obtain rfl : y = z := Option.some.inj (hy.symm.trans hzk)
            exact turnv_all h0
          · exact hk.out j y (by omega) hy)
        clear ht hk h0 hzk
        go_wp2_with fail
        refine (HT'.out _).mono ?_
        rintro e w' ⟨rfl, rfl⟩
        go_wp2_with fail
        exact ⟨⟨k + 1, hlt, by go_num, trivial, HK⟩, by simp [intOf]; omega⟩
      · rw [ev_held h0] at ht
        have HT' := Lib.hid ht
        have HNO := Lib.hid (turnv_may (sv := true) (dv := true) (proto := proto) (n := n) hzk h0)
        clear ht hk h0 hzk
        go_wp2_with fail
        refine (HT'.out _).mono ?_
        rintro e w' ⟨rfl, rfl⟩
        go_wp2_with fail
        go_ret2
        exact bld_refuses HNO.out H2.out.2.1
    · obtain rfl : k = m := by omega
      have hk8 : k ≤ 8 := by
        rcases Nat.eq_zero_or_pos k with h | h
        · omega
        · have hlt' : k - 1 < zs.length := by rw [HL.out]; omega
          have := (hk.out (k - 1) _ (by omega) (List.getElem?_eq_getElem hlt')).2.2
          omega
      by_cases hbig : 65535 < 8 * k + n
      · have HNO := Lib.hid (show ¬ may6 true true proto zs n from fun h => by have := h.2.2.2.2.2.2; have := HL.out; omega)
        have hq : (65535 : Int) - 8 * (k : Int) < (n : Int) := by omega
        go_wp2_with fail
        go_ret2
        exact bld_refuses HNO.out H2.out.2.1
      · have HY := Lib.hid (show may6 true true proto zs n from ⟨rfl, rfl, ⟨hp, hp2⟩, HX.out, by rw [HL.out]; exact hk8, fun i y hy => by
          obtain ⟨h1, h2, _⟩ := hk.out i y (by have := (List.getElem?_eq_some_iff.1 hy).1; rw [HL.out] at this; exact this) hy
          exact ⟨h1, h2⟩, by rw [HL.out]; omega⟩)
        have hq : ¬ (65535 : Int) - 8 * (k : Int) < (n : Int) := by omega
        clear hk
        go_wp2_with fail
        have hp1 := piecesZ_lit (HB.out.2.later H2.out.2.1 (Nat.le_refl _)) proto 3 26
        have hc1 := concatI_any (wr.heap.size + 1) 2 2 _ _ rfl (by omega) hp1 (by simp [totalI]; omega)
        have B3 : Below wr.heap.size wr ((wr.alloc (.cells #[.int .i64 proto] 3)).alloc (.cells #[.slice B k d, .slice (some ⟨wr.heap.size, 0, none⟩) 1 1] 26)) := ((Below.refl _ _).alloc (Nat.le_refl _) _).alloc (by simp) _
        refine hc1.mono ?_
        rintro e w3 ⟨v3, rfl, o3, b3⟩
        obtain ⟨Ak, ck, rfl, hK⟩ := Gs.of_own (n := k + 1) (l := zv (zs ++ [proto])) (by simpa [totalI, flatI] using o3)
        obtain ⟨gk, ok, rfl, hck⟩ := hK.here (by omega)
        have b3' := B3.trans (b3.mono B3.size)
        have H3 := Lib.hid (And.intro hK (And.intro (H2.out.2.1.trans (b3'.mono H2.out.2.1.size)) (And.intro (H2.out.2.2.later b3' (Nat.le_refl _)) (H2.out.1.later b3' (Nat.le_refl _)))))
        have hkcap := hK.cap
        have hkmax := hK.max
        unfold maxLen at hkmax
        clear hp1 hc1 B3 o3 b3 b3' hK hck
        go_wp2_with fail
        have B4 : Below w3.heap.size w3 (w3.alloc (.cells #[.int .u8 96, .int .u8 0, .int .u8 0, .int .u8 0] 5)) := (Below.refl _ _).alloc (Nat.le_refl _) _
        have hl4 := Bs.lit w3 [96, 0, 0, 0] 4 rfl (by unfold maxLen; omega) #[.int .u8 96, .int .u8 0, .int .u8 0, .int .u8 0] rfl 5
        refine (put16_any hl4 (8 * (k : Int) + (n : Int)) (by omega)).mono ?_
        rintro e w5 ⟨v5, rfl, o5, b5⟩
        obtain ⟨A5, c5, rfl, hB5⟩ := Bs.of_own o5
        have b5' := B4.trans (b5.mono B4.size)
        have H5 := Lib.hid (And.intro hB5 (And.intro (H3.out.1.later b5' (Nat.le_refl _)) (And.intro (H3.out.2.1.trans (b5'.mono H3.out.2.1.size)) (And.intro (H3.out.2.2.1.later b5' (Nat.le_refl _)) (H3.out.2.2.2.later b5' (Nat.le_refl _))))))
        clear B4 hl4 o5 b5 b5' hB5
        obtain ⟨k0, hk0⟩ : ∃ k0, (zs ++ [proto])[0]? = some k0 := ⟨_, List.getElem?_eq_getElem (by simp)⟩
        obtain ⟨gk', ok', e', hc0⟩ := H5.out.2.1.get (zv_at hk0)
        cases e'
        rw [Nat.add_zero] at hc0
        have hcK : ∀ w', Below w5.heap.size w5 w' → w'.cell? ⟨gk, ok, none⟩ = some (.int .i64 k0) := fun w' h => by
          rw [h.cell (p := ⟨gk, ok, none⟩) (lt_of_cell' hc0), hc0]
        go_wp2_with fail
        have hS : Below w5.heap.size w5 w5.drew := (Below.refl _ _).drew
        refine rg_begin (fun w' => Below w5.heap.size w5 w') 13 (by kernel_rfl) rfl ?_
        refine rg_take 0 (v := ?rv1) rfl (by kernel_rfl) (by kernel_rfl) (by kernel_rfl) (fun _ _ _ h => h) (by rfl) hS (fun w2 hw2 => ?ry1) ?rr1
        case ry1 => ((try dsimp only at hw2); go_simp <;> with_reducible rfl)
        simp only [Act.put, List.setIfInBounds_toArray, List.set_cons_zero, List.set_cons_succ]
        refine rg_take 1 (v := ?rv2) rfl (by kernel_rfl) (by kernel_rfl) (by kernel_rfl) (fun _ _ _ h => h) (by rfl) hS (fun w2 hw2 => ?ry2) ?rr2
        case ry2 => ((try dsimp only at hw2); go_simp <;> with_reducible rfl)
        simp only [Act.put, List.setIfInBounds_toArray, List.set_cons_zero, List.set_cons_succ]
        refine rg_take 6 (v := ?rv3) rfl (by kernel_rfl) (by kernel_rfl) (by kernel_rfl) (fun _ _ _ h => h) (by rfl) hS (fun w2 hw2 => ?ry3) ?rr3
        case ry3 => ((try dsimp only at hw2); go_simp <;> with_reducible rfl)
        simp only [Act.put, List.setIfInBounds_toArray, List.set_cons_zero, List.set_cons_succ]
        refine rg_take 8 (v := ?rv4) rfl (by kernel_rfl) (by kernel_rfl) (by kernel_rfl) (fun _ _ _ h => h) (by rfl) hS (fun w2 hw2 => ?ry4) ?rr4
        case ry4 => ((try dsimp only at hw2); go_simp <;> with_reducible rfl)
        simp only [Act.put, List.setIfInBounds_toArray, List.set_cons_zero, List.set_cons_succ]
        refine rg_take 2 (v := ?rv5) rfl (by kernel_rfl) (by kernel_rfl) (by kernel_rfl) (fun _ _ _ h => h) (by rfl) hS (fun w2 hw2 => ?ry5) ?rr5
        case ry5 => ((try dsimp only at hw2); go_simp <;> with_reducible rfl)
        simp only [Act.put, List.setIfInBounds_toArray, List.set_cons_zero, List.set_cons_succ]
        refine rg_take 7 (v := ?rv6) rfl (by kernel_rfl) (by kernel_rfl) (by kernel_rfl) (fun _ _ _ h => h) (by rfl) hS (fun w2 hw2 => ?ry6) ?rr6
        case ry6 => ((try dsimp only at hw2); go_simp <;> with_reducible rfl)
        simp only [Act.put, List.setIfInBounds_toArray, List.set_cons_zero, List.set_cons_succ]
        refine rg_take 9 (v := ?rv7) rfl (by kernel_rfl) (by kernel_rfl) (by kernel_rfl) (fun _ _ _ h => h) (by rfl) hS (fun w2 hw2 => ?ry7) ?rr7
        case ry7 => ((try dsimp only at hw2); go_simp <;> with_reducible rfl)
        simp only [Act.put, List.setIfInBounds_toArray, List.set_cons_zero, List.set_cons_succ]
        refine rg_take 3 (v := ?rv8) rfl (by kernel_rfl) (by kernel_rfl) (by kernel_rfl) (fun _ _ _ h => h) (by rfl) hS (fun w2 hw2 => ?ry8) ?rr8
        case ry8 => ((try dsimp only at hw2); go_simp <;> with_reducible rfl)
        simp only [Act.put, List.setIfInBounds_toArray, List.set_cons_zero, List.set_cons_succ]
        refine rg_take 4 (v := ?rv9) rfl (by kernel_rfl) (by kernel_rfl) (by kernel_rfl) (fun _ _ _ h => h) (by rfl) hS (fun w2 hw2 => ?ry9) ?rr9
        case ry9 => ((try dsimp only at hw2); go_simp <;> with_reducible rfl)
        simp only [Act.put, List.setIfInBounds_toArray, List.set_cons_zero, List.set_cons_succ]
        refine rg_step 5 rfl (by kernel_rfl) (by rfl) (fun K hK => ?_)
        go_simp
        have l2 := (Bs.lit w5 [ub k0, 64] 2 rfl (by unfold maxLen; omega) #[.int .u8 (IntKind.u8.wrap k0), .int .u8 64] (ub_lit k0) 5).later ((Below.refl _ _).drew) (Nat.le_refl _)
        replace hS : Below w5.heap.size w5 (w5.alloc (.cells #[.int .u8 (IntKind.u8.wrap k0), .int .u8 64] 5)).drew := ((Below.refl _ _).alloc (Nat.le_refl _) _).drew
        generalize (w5.alloc (.cells #[.int .u8 (IntKind.u8.wrap k0), .int .u8 64] 5)).drew = W at l2 hS ⊢
        refine hK.out _ _ hS ?_
        clear hK K
        try simp only [Act.put, List.setIfInBounds_toArray, List.set_cons_zero, List.set_cons_succ]
        refine rg_step 10 rfl (by kernel_rfl) (by rfl) (fun K hK => ?_)
        go_simp
        have hp2 := pieces4 (w := W) (p0 := ⟨A5, 6, c5, _⟩) (p1 := ⟨some ⟨w5.heap.size, 0, none⟩, 2, 2, [ub k0, 64]⟩) (p2 := ⟨some ⟨w.heap.size, 1, none⟩, 16, 16, sb⟩) (p3 := ⟨some ⟨w.heap.size + 1, 1, none⟩, 16, 16, db⟩) (H5.out.1.later hS (Nat.le_refl _)) l2 (H5.out.2.2.2.1.later hS (Nat.le_refl _)).bytes (H5.out.2.2.2.2.later hS (Nat.le_refl _)).bytes 22
        have hc2 := concat_any W.heap.size 4 4 _ _ rfl (by omega) hp2 (by simp [total])
        replace hS := hS.alloc hS.size (.cells #[Piece.v ⟨A5, 6, c5, [96, 0, 0, 0] ++ putn (8 * (k : Int) + (n : Int)) 2⟩, Piece.v ⟨some ⟨w5.heap.size, 0, none⟩, 2, 2, [ub k0, 64]⟩, Piece.v ⟨some ⟨w.heap.size, 1, none⟩, 16, 16, sb⟩, Piece.v ⟨some ⟨w.heap.size + 1, 1, none⟩, 16, 16, db⟩] 22)
        refine hK.out _ _ hS ?_
        clear hK K
        try simp only [Act.put, List.setIfInBounds_toArray, List.set_cons_zero, List.set_cons_succ]
        refine rg_step 11 rfl (by kernel_rfl) (by rfl) (fun K hK => ?_)
        go_simp
        have hfl : flat [⟨A5, 6, c5, [96, 0, 0, 0] ++ putn (8 * (k : Int) + (n : Int)) 2⟩, ⟨some ⟨w5.heap.size, 0, none⟩, 2, 2, [ub k0, 64]⟩, ⟨some ⟨w.heap.size, 1, none⟩, 16, 16, sb⟩, ⟨some ⟨w.heap.size + 1, 1, none⟩, 16, 16, db⟩] = first40 sb db proto zs n := by
          have hf0 : firstk zs proto = k0 := by unfold firstk List.getD; rw [hk0]; rfl
          unfold flat first40
          rw [hf0, HL.out, show ((8 * k + n : Nat) : Int) = 8 * (k : Int) + (n : Int) by omega]
          simp
        rw [hfl] at hc2
        refine hc2.mono ?_
        rintro e w6 ⟨v6, rfl, o6, b6⟩
        have o6' := owns_n (n' := 40) (by simp [total]) (owns_base o6 hS.size)
        replace hS := hS.trans (b6.mono hS.size)
        have H6 := Lib.hid (And.intro o6' hS)
        clear o6 b6 o6' hfl hc2 hp2 l2
        refine hK.out _ _ hS ?_
        clear hK K
        try simp only [Act.put, List.setIfInBounds_toArray, List.set_cons_zero, List.set_cons_succ]
        refine rg_take 12 (v := ?rv10) rfl (by kernel_rfl) (by kernel_rfl) (by kernel_rfl) (fun _ _ _ h => h) (by rfl) hS (fun w2 hw2 => ?ry10) ?rr10
        case ry10 => ((try dsimp only at hw2); go_simp <;> with_reducible rfl)
        simp only [Act.put, List.setIfInBounds_toArray, List.set_cons_zero, List.set_cons_succ]
        refine rg_done (by kernel_rfl) ?_
        clear hS hcK hc0 hk0
        have hlen : (zs ++ [proto]).length = k + 1 := by simp [HL.out]
        have HLen := Lib.hid hlen
        clear hlen
        by_cases hck1 : ck = 1
        all_goals
          go_wp2_with fail
          go_loopw [16, 88] (fun h i wr => ∃ j : Nat, j ≤ k ∧ i = .int .i64 j ∧ wr.ownsRow w5.heap.size 5 1 h (40 + 8 * j) (bv (first40 sb db proto zs n ++ headsv (((zs ++ [proto]).drop 1).take j))) ∧ Below w5.heap.size w5 wr) (fun _ i _ => k - (intOf i).toNat)
          case atStart => exact ⟨0, Nat.zero_le _, rfl, by simpa [headsv] using H6.out.1, H6.out.2⟩
          case round =>
            obtain ⟨j, hj, rfl, ho, hb⟩ := hrel
            by_cases hlt : j < k
            · try (exfalso; omega)
              all_goals
                have hj1 : 1 + j < (zs ++ [proto]).length := by rw [HLen.out]; omega
                have hzj := List.getElem?_eq_getElem hj1
                generalize (zs ++ [proto])[1 + j] = z at hzj
                obtain ⟨gk', ok', e', hcz⟩ := (H5.out.2.1.later hb (Nat.le_refl _)).get (zv_at hzj)
                cases e'
                rw [← Nat.add_assoc] at hcz
                have hz2 : ((zs ++ [proto]).drop 1)[j]? = some z := by rw [List.getElem?_drop]; exact hzj
                have hsz := hb.size
                have HT := Lib.hid (And.intro ho (And.intro hb (headsv_take hz2)))
                clear ho hb hz2 hzj hj1
                go_wp2_with (at_builtin; refine wpList_append_bs rfl (.tmp 92) (.tmp 95) 22 rfl w5.heap.size 5 info5 Tryd.underlying22 _ _ _ rfl (HT.out.1.alloc _) _ 8 8 _ rfl (by exact Bs.lit _ (ub z :: List.replicate 7 0) 8 rfl (by unfold maxLen; omega) _ (ub_lit8 z) _) (by omega) (by simp; omega) ?_; intro v7 w7 o7 g7 n7 a7)
                have b7 : Below w5.heap.size w5 w7 := (HT.out.2.1.alloc hsz _).grown g7 (by simp; omega) (fun q hq => (HT.out.1.lt q hq).1)
                have H7 := Lib.hid (And.intro o7 b7)
                clear o7 g7 n7 a7 b7
                go_wp2_with fail
                refine ⟨⟨_, _, _, _, _, _, _, _, _, _, _, _, ?rel, rfl⟩, ?_⟩
                case rel =>
                  refine ⟨j + 1, hlt, by go_num, ?_, H7.out.2⟩
                  rw [HT.out.2.2, ← List.append_assoc]
                  exact owns_n (by omega) H7.out.1
                simp [intOf]
                omega
            · obtain rfl : j = k := by omega
              rw [List.take_of_length_le (by rw [List.length_drop, HLen.out]; omega)] at ho
              obtain ⟨A7, c7, rfl, hB7⟩ := Bs.of_own ho
              have hp3 := pieces2 (w := wr) (p0 := ⟨A7, 40 + 8 * j, c7, first40 sb db proto zs n ++ headsv ((zs ++ [proto]).drop 1)⟩) (p1 := ⟨A, n, c, l⟩) hB7 (HB.out.1.later (H5.out.2.2.1.trans (hb.mono H5.out.2.2.1.size)) (Nat.le_refl _)) 22
              have hc3 := concat_any wr.heap.size 2 2 _ _ rfl (by omega) hp3 (by simp [total]; omega)
              have B7 := (H5.out.2.2.1.trans (hb.mono H5.out.2.2.1.size)).alloc (H5.out.2.2.1.trans (hb.mono H5.out.2.2.1.size)).size (.cells #[Piece.v ⟨A7, 40 + 8 * j, c7, first40 sb db proto zs n ++ headsv ((zs ++ [proto]).drop 1)⟩, Piece.v ⟨A, n, c, l⟩] 22)
              have H7 := Lib.hid (And.intro hc3 B7)
              clear hp3 hc3 B7 ho hb hB7
              go_wp2_with fail
              refine H7.out.1.mono ?_
              rintro e w8 ⟨v8, rfl, o8, b8⟩
              obtain ⟨A8, c8, rfl, hB8⟩ := Bs.of_own o8
              have H8 := Lib.hid (And.intro hB8 (H7.out.2.trans (b8.mono H7.out.2.size)))
              clear o8 b8 hB8
              go_wp2_with fail
              go_ret2
              refine ⟨_, _, _, _, rfl, ?_, ?_, H8.out.2⟩
              · unfold build6v
                rw [if_pos HY.out]
                have := H8.out.1
                simpa [flat, built6] using this
              · unfold build6e
                rw [if_pos HY.out]
                exact Tells.nil _ _ _
end Go.Proofs.YtceigepclemdmaaDoor
