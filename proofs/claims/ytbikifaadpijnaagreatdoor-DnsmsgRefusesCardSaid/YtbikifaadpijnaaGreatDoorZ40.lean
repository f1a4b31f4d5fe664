/-
  Package record's ReadRecord: its bytes lie in memory of its own. Conditions: those of the slice; 2^47 bytes at most; errors.errorType holds the handle of the type error.
  Package dnsmsg's heads: their numbers read, and added; whether they may be; as they are written. Conditions: those of the slices.
  Package record's bare, alike: what a type has; whether two have the same. Conditions: those of the slices; 2^47 bytes at most.
  Records built in part, and behind a guard; '==' of a question with itself; stockadehelp.Record at one and the same; stockadeplay.port. Conditions: those of the slices; 2^47 bytes at most.
-/
import Derived.Test.YtbikifaadpijnaaGreatDoorZ39
import Derived.Test.YtbikifaadpijnaaGreatDoorZ31
import Derived.Test.YtbikifaadpijnaaGreatDoorZ16
import Derived.Test.YtbikifaadpijnaaGreatDoorZ19
import Derived.IntWalk
import Derived.Test.YtbikifaadpijnaaGreatDoorZ28
import Derived.Test.YtbikifaadpijnaaGreatDoorZ21
import Derived.Laws.StructEq
namespace Go.Proofs.YtbikifaadpijnaaGreatDoor
open Go.RowKit
set_option maxRecDepth 100000

theorem ow0 (b : Nat) : Ow b none := fun _ h => by cases h
theorem DatOf.ow {A' : Option Addr} {n' c' : Nat} {d : List UInt8} {B : Option Addr} {k m : Nat} {x : List UInt8} (h : DatOf A' n' c' d B k m x) {b : Nat} (hB : Ow b B) : Ow b A' := by
  rcases h with ⟨_, rfl, _, _⟩ | ⟨_, rfl, _, _⟩
  · exact ow0 b
  · exact hB
/-- What ReadRecord hands back. -/
def ReadRO (r : Rr) (w : World) (e : Ending) (w' : World) : Prop := ∃ A' n' c' v, e = .returned (.tuple #[.agg (rcv r.r A' n' c'), .int .i64 r.next, v]) ∧ Bs w' A' n' c' r.r.data ∧ Ow w.heap.size A' ∧ Tells w' v r.f ∧ Below w.heap.size w w'
set_option maxHeartbeats 4000000 in
theorem readR_own {A : Option Addr} {n c : Nat} {l : List UInt8} {w : World} (hb : Bs w A n c l) (h47 : n ≤ 140737488350000) (at_ : Int) (ha : at_ ≤ 9223372036854775807) (hg : Handle w) : Calls Tryz.prog 53 #[.slice A n c, .int .i64 at_] w (ReadRO (readRv l n at_) w) := by
  unfold readRv ReadRO
  have hlen := hb.len
  have HB := Lib.hid (And.intro hb hg)
  clear hb hg
  rcases readQ_ways (A := A) (c := c) (l := l) h47 at_ ha with ⟨h1, h2, h3⟩ | ⟨h1, h3⟩
  · generalize readQv l n at_ = q at h1 h2 h3 ⊢
    obtain ⟨⟨name, kind, cls⟩, next, f⟩ := q
    dsimp only at h1 h2 h3
    have K := Lib.hid h3
    clear h3
    unfold readRq
    dsimp only
    rw [if_neg (by omega)]
    clear h1
    by_cases q4 : n < next + 4
    · rw [if_pos q4]
      go_enter Tryz.func53, Tryz.ntmps53
      go_wp2_with (refine wpList_alloc_rc rfl rfl ?_; intro w1 a1 b1 z1; have H1 := Lib.hid (And.intro a1 b1); clear a1 b1 z1)
      refine (K.out w1 (HB.out.1.later H1.out.2 (Nat.le_refl _))).mono ?_
      rintro e w2 ⟨rfl, b2⟩
      have H2 := Lib.hid (And.intro (H1.out.1.later b2 (Nat.le_refl _)) (H1.out.2.trans (b2.mono H1.out.2.size)))
      clear b2
      go_wp2_with (first
        | (refine wpList_store_qs rfl (.tmp 7) (.tmp 16) rfl ⟨name, kind, cls⟩ rfl rfl H3.out.2.1 ?_; intro w4 a4 o4 z4 g4; have H4 := Lib.hid (And.intro (H3.out.1.same (o4 _ (Nat.ne_of_lt H2.out.1.lt))) (g4 w.heap.size w H2.out.2.size H3.out.2.2)); clear a4 o4 z4 g4)
        | (refine wpList_alloc_qs rfl rfl ?_; intro w3 a3 b3 z3; have H3 := Lib.hid (And.intro (H2.out.1.later b3 (Nat.le_refl _)) (And.intro a3 (H2.out.2.trans (b3.mono H2.out.2.size)))); clear a3 b3 z3))
      refine (u32_not (HB.out.1.later H4.out.2 (Nat.le_refl _)) (by omega) q4).mono ?_
      rintro e w5 ⟨z5, T, x, rfl, t5, b5⟩
      have H5 := Lib.hid (And.intro (H4.out.1.later b5 (Nat.le_refl _)) (And.intro t5 (H4.out.2.trans (b5.mono H4.out.2.size))))
      clear t5 b5
      go_wp2_with (refine wpList_store_rc rfl (.tmp 4) (.tmp 31) rfl .zero none 0 0 rfl rfl Rc.zero_ok H5.out.1 ?_; intro w6 a6 o6 z6 g6; have H6 := Lib.hid (And.intro a6 (And.intro (H5.out.2.1.farRc H5.out.1 o6) (g6 w.heap.size w (Nat.le_refl _) H5.out.2.2))); clear a6 o6 z6 g6)
      exact bodyPost_ret (results_rc3 _ rfl rfl H6.out.1) rfl ⟨none, 0, 0, .iface T x, rfl, Bs.nil _, ow0 _, H6.out.2⟩
    rw [if_neg q4]
    by_cases q6 : n < next + 6 + (if n < next + 6 then 0 else num2 l (next + 4))
    · rw [if_pos q6]
      have q6' : n < next + 4 + 2 + (if n < next + 4 + 2 then 0 else num2 l (next + 4)) := by
        rw [show next + 4 + 2 = next + 6 by omega]; exact q6
      have KD := Lib.hid fun w1 (g : Below w.heap.size w w1) => dataAt_bad (HB.out.1.later g (Nat.le_refl _)) h47 (next + 4) (by omega) q6' (HB.out.2.later g (Nat.le_refl _))
      clear q6 q6'
      go_enter Tryz.func53, Tryz.ntmps53
      go_wp2_with (refine wpList_alloc_rc rfl rfl ?_; intro w1 a1 b1 z1; have H1 := Lib.hid (And.intro a1 b1); clear a1 b1 z1)
      refine (K.out w1 (HB.out.1.later H1.out.2 (Nat.le_refl _))).mono ?_
      rintro e w2 ⟨rfl, b2⟩
      have H2 := Lib.hid (And.intro (H1.out.1.later b2 (Nat.le_refl _)) (H1.out.2.trans (b2.mono H1.out.2.size)))
      clear b2
      go_wp2_with (first
        | (refine wpList_store_qs rfl (.tmp 7) (.tmp 16) rfl ⟨name, kind, cls⟩ rfl rfl H3.out.2.1 ?_; intro w4 a4 o4 z4 g4; have H4 := Lib.hid (And.intro (H3.out.1.same (o4 _ (Nat.ne_of_lt H2.out.1.lt))) (g4 w.heap.size w H2.out.2.size H3.out.2.2)); clear a4 o4 z4 g4)
        | (refine wpList_alloc_qs rfl rfl ?_; intro w3 a3 b3 z3; have H3 := Lib.hid (And.intro (H2.out.1.later b3 (Nat.le_refl _)) (And.intro a3 (H2.out.2.trans (b3.mono H2.out.2.size)))); clear a3 b3 z3))
      refine (u32_there (HB.out.1.later H4.out.2 (Nat.le_refl _)) h47 (by omega)).mono ?_
      rintro e w5 ⟨rfl, b5⟩
      have H5 := Lib.hid (And.intro (H4.out.1.later b5 (Nat.le_refl _)) (H4.out.2.trans (b5.mono H4.out.2.size)))
      clear b5
      go_wp2_with fail
      rw [show (next : Int) + 4 = ((next + 4 : Nat) : Int) by omega]
      refine (KD.out w5 H5.out.2).mono ?_
      rintro e w6 ⟨A6, n6, c6, T, x, rfl, t6, b6⟩
      have H6 := Lib.hid (And.intro (H5.out.1.later b6 (Nat.le_refl _)) (And.intro t6 (H5.out.2.trans (b6.mono H5.out.2.size))))
      clear t6 b6
      go_wp2_with (refine wpList_store_rc rfl (.tmp 4) (.tmp 42) rfl .zero none 0 0 rfl rfl Rc.zero_ok H6.out.1 ?_; intro w7 a7 o7 z7 g7; have H7 := Lib.hid (And.intro a7 (And.intro (H6.out.2.1.farRc H6.out.1 o7) (g7 w.heap.size w (Nat.le_refl _) H6.out.2.2))); clear a7 o7 z7 g7)
      exact bodyPost_ret (results_rc3 _ rfl rfl H7.out.1) rfl ⟨none, 0, 0, .iface T x, rfl, Bs.nil _, ow0 _, H7.out.2⟩
    rw [if_neg q6]
    have q6a : ¬ n < next + 6 := fun h => q6 (by omega)
    rw [if_neg q6a] at q6
    obtain ⟨k, hk⟩ : ∃ k, num2 l (next + 4) = k := ⟨_, rfl⟩
    have hk2 : k < 65536 := by rw [← hk]; exact num2_lt _ _
    have KD := Lib.hid fun w1 (g : Below w.heap.size w w1) => dataAt_ok (HB.out.1.later g (Nat.le_refl _)) h47 (next + 4) k hk (by omega)
    rw [hk] at q6 ⊢
    have hlk : ((l.drop (next + 4 + 2)).take k).length = k := by rw [List.length_take, List.length_drop]; omega
    have KW := Lib.hid fun w1 B m (g : Below w.heap.size w w1) hB => with_any (w := w1) (B := B) (m := m) (HB.out.1.later g (Nat.le_refl _)) h47 ⟨name, kind, cls⟩ (num4 l next) (next + 4) k (by omega) hk2 hB
    have hok := dataV_ok l n ⟨name, kind, cls⟩ (num4 l next) (next + 4) k hlk.symm
    unfold WithR at KW
    generalize dataV l n ((⟨name, kind, cls⟩ : Qs).asRc (num4 l next)) (next + 4) k = y at KW hok ⊢
    obtain ⟨y, f⟩ := y
    dsimp only at KW hok ⊢
    have HY := Lib.hid hok
    clear hk hok
    by_cases hf : f.code ≠ 0
    · rw [if_pos hf]
      go_enter Tryz.func53, Tryz.ntmps53
      go_wp2_with (refine wpList_alloc_rc rfl rfl ?_; intro w1 a1 b1 z1; have H1 := Lib.hid (And.intro a1 b1); clear a1 b1 z1)
      refine (K.out w1 (HB.out.1.later H1.out.2 (Nat.le_refl _))).mono ?_
      rintro e w2 ⟨rfl, b2⟩
      have H2 := Lib.hid (And.intro (H1.out.1.later b2 (Nat.le_refl _)) (H1.out.2.trans (b2.mono H1.out.2.size)))
      clear b2
      go_wp2_with (first
        | (refine wpList_store_qs rfl (.tmp 7) (.tmp 16) rfl ⟨name, kind, cls⟩ rfl rfl H3.out.2.1 ?_; intro w4 a4 o4 z4 g4; have H4 := Lib.hid (And.intro (H3.out.1.same (o4 _ (Nat.ne_of_lt H2.out.1.lt))) (And.intro a4 (g4 w.heap.size w H2.out.2.size H3.out.2.2))); clear a4 o4 z4 g4)
        | (refine wpList_alloc_qs rfl rfl ?_; intro w3 a3 b3 z3; have H3 := Lib.hid (And.intro (H2.out.1.later b3 (Nat.le_refl _)) (And.intro a3 (H2.out.2.trans (b3.mono H2.out.2.size)))); clear a3 b3 z3))
      refine (u32_there (HB.out.1.later H4.out.2.2 (Nat.le_refl _)) h47 (by omega)).mono ?_
      rintro e w5 ⟨rfl, b5⟩
      have H5 := Lib.hid (And.intro (H4.out.1.later b5 (Nat.le_refl _)) (And.intro (H4.out.2.1.later b5 (Nat.le_refl _)) (H4.out.2.2.trans (b5.mono H4.out.2.2.size))))
      clear b5
      go_wp2_with fail
      rw [show (next : Int) + 4 = ((next + 4 : Nat) : Int) by omega]
      refine (KD.out w5 H5.out.2.2).mono ?_
      rintro e w6 ⟨A6, c6, rfl, hB6, w6o, b6⟩
      have H6 := Lib.hid (And.intro (H5.out.1.later b6 (Nat.le_refl _)) (And.intro (H5.out.2.1.later b6 (Nat.le_refl _)) (And.intro (And.intro hB6 (show ∀ a, A6 = some a → a.block ≠ w.heap.size from fun a ha => Nat.ne_of_gt (Nat.lt_of_lt_of_le H5.out.1.lt (w6o a ha)))) (H5.out.2.2.trans (b6.mono H5.out.2.2.size)))))
      have HO6 := Lib.hid (show Ow w.heap.size A6 from fun a ha => Nat.le_trans H5.out.2.2.size (w6o a ha))
      have e0 : w6.cell? ⟨w2.heap.size, 0, none⟩ = some (.string (mkS name)) := H6.out.2.1.cell 0
      have e1 : w6.cell? ⟨w2.heap.size, 1, none⟩ = some (.int .i64 kind) := H6.out.2.1.cell 1
      have e2 : w6.cell? ⟨w2.heap.size, 2, none⟩ = some (.int .i64 cls) := H6.out.2.1.cell 2
      clear b6 hB6 w6o
      go_wp2_with (first
        | (refine wpList_load_rc rfl (.tmp 11) rfl rfl H8.out.2.1 ?_)
        | (refine wpList_store_rc rfl (.tmp 11) (.tmp 51) rfl ⟨name, kind, cls, (num4 l next : Nat), false, zero16, [], []⟩ none 0 0 rfl rfl rfl H7.out.2.1 ?_; intro w8 a8 o8 z8 g8; have H8 := Lib.hid (And.intro (H7.out.1.same (o8 _ (Nat.ne_of_lt H6.out.1.lt))) (And.intro a8 (And.intro (g8 w6.heap.size w6 (Nat.le_refl _) H7.out.2.2) (g8 w.heap.size w H6.out.2.2.2.size (H6.out.2.2.2.trans (H7.out.2.2.mono H6.out.2.2.2.size)))))); clear a8 o8 z8 g8)
        | (refine wpList_alloc_rc rfl rfl ?_; intro w7 a7 b7 z7; have H7 := Lib.hid (And.intro (H6.out.1.later b7 (Nat.le_refl _)) (And.intro a7 b7)); clear a7 b7 z7)
        | (refine wpList_build_rc4 rfl (.tmp 45) (.tmp 47) (.tmp 49) (.tmp 50) rfl name kind cls (num4 l next : Nat) rfl rfl rfl rfl ?_))
      rw [show (next : Int) + 4 = ((next + 4 : Nat) : Int) by omega]
      refine (KW.out w8 A6 c6 H8.out.2.2.2 (H6.out.2.2.1.1.later H8.out.2.2.1 (Nat.le_refl _))).mono ?_
      rintro e w9 ⟨A9, n9, c9, v9, rfl, hB9, t9, b9⟩
      obtain ⟨T, x, rfl⟩ := t9.held' hf
      have H9 := Lib.hid (And.intro (H8.out.1.later b9 (Nat.le_refl _)) (And.intro (H8.out.2.1.later b9 (Nat.le_refl _)) (And.intro t9 (H8.out.2.2.2.trans (b9.mono H8.out.2.2.2.size)))))
      have s6 := H6.out.2.2.2.size
      clear hB9 t9 b9 e0 e1 e2
      go_wp2_with (first
        | (refine wpList_store_rc rfl (.tmp 4) (.tmp 63) rfl .zero none 0 0 rfl rfl Rc.zero_ok H10.out.1 ?_; intro w11 a11 o11 z11 g11; have H11 := Lib.hid (And.intro a11 (And.intro (H10.out.2.1.farRc H10.out.1 o11) (g11 w.heap.size w (Nat.le_refl _) H10.out.2.2))); clear a11 o11 z11 g11)
        | (refine wpList_store_rc rfl (.tmp 11) (.tmp 59) rfl y A9 n9 c9 rfl rfl HY.out H9.out.2.1 ?_; intro w10 a10 o10 z10 g10; have H10 := Lib.hid (And.intro (H9.out.1.same (o10 _ (Nat.ne_of_lt H6.out.1.lt))) (And.intro (H9.out.2.2.1.farRc H9.out.2.1 o10) (g10 w.heap.size w s6 H9.out.2.2.2))); clear a10 o10 z10 g10))
      exact bodyPost_ret (results_rc3 _ rfl rfl H11.out.1) rfl ⟨none, 0, 0, .iface T x, rfl, Bs.nil _, ow0 _, H11.out.2⟩
    · rw [if_neg hf]
      have hf0 : f.code = 0 := Decidable.not_not.1 hf
      clear hf
      go_enter Tryz.func53, Tryz.ntmps53
      go_wp2_with (refine wpList_alloc_rc rfl rfl ?_; intro w1 a1 b1 z1; have H1 := Lib.hid (And.intro a1 b1); clear a1 b1 z1)
      refine (K.out w1 (HB.out.1.later H1.out.2 (Nat.le_refl _))).mono ?_
      rintro e w2 ⟨rfl, b2⟩
      have H2 := Lib.hid (And.intro (H1.out.1.later b2 (Nat.le_refl _)) (H1.out.2.trans (b2.mono H1.out.2.size)))
      clear b2
      go_wp2_with (first
        | (refine wpList_store_qs rfl (.tmp 7) (.tmp 16) rfl ⟨name, kind, cls⟩ rfl rfl H3.out.2.1 ?_; intro w4 a4 o4 z4 g4; have H4 := Lib.hid (And.intro (H3.out.1.same (o4 _ (Nat.ne_of_lt H2.out.1.lt))) (And.intro a4 (g4 w.heap.size w H2.out.2.size H3.out.2.2))); clear a4 o4 z4 g4)
        | (refine wpList_alloc_qs rfl rfl ?_; intro w3 a3 b3 z3; have H3 := Lib.hid (And.intro (H2.out.1.later b3 (Nat.le_refl _)) (And.intro a3 (H2.out.2.trans (b3.mono H2.out.2.size)))); clear a3 b3 z3))
      refine (u32_there (HB.out.1.later H4.out.2.2 (Nat.le_refl _)) h47 (by omega)).mono ?_
      rintro e w5 ⟨rfl, b5⟩
      have H5 := Lib.hid (And.intro (H4.out.1.later b5 (Nat.le_refl _)) (And.intro (H4.out.2.1.later b5 (Nat.le_refl _)) (H4.out.2.2.trans (b5.mono H4.out.2.2.size))))
      clear b5
      go_wp2_with fail
      rw [show (next : Int) + 4 = ((next + 4 : Nat) : Int) by omega]
      refine (KD.out w5 H5.out.2.2).mono ?_
      rintro e w6 ⟨A6, c6, rfl, hB6, w6o, b6⟩
      have H6 := Lib.hid (And.intro (H5.out.1.later b6 (Nat.le_refl _)) (And.intro (H5.out.2.1.later b6 (Nat.le_refl _)) (And.intro (And.intro hB6 (show ∀ a, A6 = some a → a.block ≠ w.heap.size from fun a ha => Nat.ne_of_gt (Nat.lt_of_lt_of_le H5.out.1.lt (w6o a ha)))) (H5.out.2.2.trans (b6.mono H5.out.2.2.size)))))
      have HO6 := Lib.hid (show Ow w.heap.size A6 from fun a ha => Nat.le_trans H5.out.2.2.size (w6o a ha))
      have e0 : w6.cell? ⟨w2.heap.size, 0, none⟩ = some (.string (mkS name)) := H6.out.2.1.cell 0
      have e1 : w6.cell? ⟨w2.heap.size, 1, none⟩ = some (.int .i64 kind) := H6.out.2.1.cell 1
      have e2 : w6.cell? ⟨w2.heap.size, 2, none⟩ = some (.int .i64 cls) := H6.out.2.1.cell 2
      clear b6 hB6 w6o
      go_wp2_with (first
        | (refine wpList_load_rc rfl (.tmp 11) rfl rfl H8.out.2.1 ?_)
        | (refine wpList_store_rc rfl (.tmp 11) (.tmp 51) rfl ⟨name, kind, cls, (num4 l next : Nat), false, zero16, [], []⟩ none 0 0 rfl rfl rfl H7.out.2.1 ?_; intro w8 a8 o8 z8 g8; have H8 := Lib.hid (And.intro (H7.out.1.same (o8 _ (Nat.ne_of_lt H6.out.1.lt))) (And.intro a8 (And.intro (g8 w6.heap.size w6 (Nat.le_refl _) H7.out.2.2) (g8 w.heap.size w H6.out.2.2.2.size (H6.out.2.2.2.trans (H7.out.2.2.mono H6.out.2.2.2.size)))))); clear a8 o8 z8 g8)
        | (refine wpList_alloc_rc rfl rfl ?_; intro w7 a7 b7 z7; have H7 := Lib.hid (And.intro (H6.out.1.later b7 (Nat.le_refl _)) (And.intro a7 b7)); clear a7 b7 z7)
        | (refine wpList_build_rc4 rfl (.tmp 45) (.tmp 47) (.tmp 49) (.tmp 50) rfl name kind cls (num4 l next : Nat) rfl rfl rfl rfl ?_))
      rw [show (next : Int) + 4 = ((next + 4 : Nat) : Int) by omega]
      refine (KW.out w8 A6 c6 H8.out.2.2.2 (H6.out.2.2.1.1.later H8.out.2.2.1 (Nat.le_refl _))).mono ?_
      rintro e w9 ⟨A9, n9, c9, v9, rfl, hB9, t9, b9⟩
      obtain rfl := t9.none' hf0
      have H9 := Lib.hid (And.intro (H8.out.1.later b9 (Nat.le_refl _)) (And.intro (H8.out.2.1.later b9 (Nat.le_refl _)) (And.intro hB9 (And.intro (H8.out.2.2.1.trans (b9.mono H8.out.2.2.1.size)) (H8.out.2.2.2.trans (b9.mono H8.out.2.2.2.size))))))
      have s6 := H6.out.2.2.2.size
      have hneq : w.heap.size ≠ w6.heap.size := Nat.ne_of_lt H6.out.1.lt
      clear hB9 t9 b9 e0 e1 e2
      go_wp2_with (first
        | (refine wpList_store_rc rfl (.tmp 4) (.tmp 65) rfl y A9 n9 c9 rfl rfl HY.out H10.out.1 ?_; intro w11 a11 o11 z11 g11; have H11 := Lib.hid (And.intro a11 (And.intro (H9.out.2.2.1.bs (H10.out.2.2.1.farBlk H6.out.2.2.1.2 o11)) (g11 w.heap.size w (Nat.le_refl _) H10.out.2.2.2))); clear a11 o11 z11 g11)
        | (refine wpList_load_rc rfl (.tmp 11) rfl rfl H10.out.2.1 ?_)
        | (refine wpList_store_rc rfl (.tmp 11) (.tmp 59) rfl y A9 n9 c9 rfl rfl HY.out H9.out.2.1 ?_; intro w10 a10 o10 z10 g10; have H10 := Lib.hid (And.intro (H9.out.1.same (o10 _ hneq)) (And.intro a10 (And.intro (H6.out.2.2.1.1.later (g10 w6.heap.size w6 (Nat.le_refl _) H9.out.2.2.2.1) (Nat.le_refl _)) (g10 w.heap.size w s6 H9.out.2.2.2.2)))); clear a10 o10 z10 g10))
      rw [show (next : Int) + 4 + 2 + (k : Int) = ((next + 6 + k : Nat) : Int) by omega]
      exact bodyPost_ret (results_rc3 _ rfl rfl H11.out.1) rfl ⟨A9, n9, c9, .nilIface, rfl, H11.out.2.1, H9.out.2.2.1.ow HO6.out, Tells.nil _ _ _, H11.out.2.2⟩
  · generalize readQv l n at_ = q at h1 h3 ⊢
    obtain ⟨⟨name, kind, cls⟩, next, f⟩ := q
    dsimp only at h1 h3
    have K := Lib.hid h3
    clear h3
    unfold readRq
    dsimp only
    rw [if_pos h1]
    go_enter Tryz.func53, Tryz.ntmps53
    go_wp2_with (refine wpList_alloc_rc rfl rfl ?_; intro w1 a1 b1 z1; have H1 := Lib.hid (And.intro a1 b1); clear a1 b1 z1)
    refine (K.out w1 (HB.out.1.later H1.out.2 (Nat.le_refl _))).mono ?_
    rintro e w2 ⟨q2, z2, T, x, rfl, t2, b2⟩
    have H2 := Lib.hid (And.intro (H1.out.1.later b2 (Nat.le_refl _)) (And.intro t2 (H1.out.2.trans (b2.mono H1.out.2.size))))
    clear t2 b2
    go_wp2_with (first
      | (refine wpList_store_rc rfl (.tmp 4) (.tmp 21) rfl .zero none 0 0 rfl rfl Rc.zero_ok H4.out.1 ?_; intro w6 a6 o6 z6 g6; have H6 := Lib.hid (And.intro a6 (And.intro (H4.out.2.1.farRc H4.out.1 o6) (g6 w.heap.size w (Nat.le_refl _) H4.out.2.2))); clear a6 o6 z6 g6)
      | (refine wpList_store_qs rfl (.tmp 7) (.tmp 16) rfl q2 rfl rfl H3.out.2.1 ?_; intro w4 a4 o4 z4 g4; have H4 := Lib.hid (And.intro (H3.out.1.same (o4 _ (Nat.ne_of_lt H2.out.1.lt))) (And.intro (H3.out.2.2.1.farQs H3.out.2.1 o4) (g4 w.heap.size w H2.out.2.2.size H3.out.2.2.2))); clear a4 o4 z4 g4)
      | (refine wpList_alloc_qs rfl rfl ?_; intro w3 a3 b3 z3; have H3 := Lib.hid (And.intro (H2.out.1.later b3 (Nat.le_refl _)) (And.intro a3 (And.intro (H2.out.2.1.later b3 (Nat.le_refl _)) (H2.out.2.2.trans (b3.mono H2.out.2.2.size))))); clear a3 b3 z3))
    exact bodyPost_ret (results_rc3 _ rfl rfl H6.out.1) rfl ⟨none, 0, 0, .iface T x, rfl, Bs.nil _, ow0 _, H6.out.2⟩
end Go.Proofs.YtbikifaadpijnaaGreatDoor

namespace Go.Proofs.YtbikifaadpijnaaGreatDoor
open Go.RowKit
set_option maxRecDepth 100000

theorem hd_set {u : Nat → Int} {i : Nat} (hi : i < 6) (v : Int) : (hdv u).setIfInBounds i (.int .i64 v) = hdv (fun k => if k = i then v else u k) := by
  match i, hi with
  | 0, _ => rfl
  | 1, _ => rfl
  | 2, _ => rfl
  | 3, _ => rfl
  | 4, _ => rfl
  | 5, _ => rfl
theorem hd_get {u : Nat → Int} {i : Nat} (hi : i < 6) : (hdv u)[i]? = some (.int .i64 (u i)) := by
  match i, hi with
  | 0, _ => rfl
  | 1, _ => rfl
  | 2, _ => rfl
  | 3, _ => rfl
  | 4, _ => rfl
  | 5, _ => rfl
theorem HxBox.at_ {w : World} {g : Nat} {u : Nat → Int} (H : HxBox w g u) {i : Nat} (hi : i < 6) : w.cell? ⟨g, i, none⟩ = some (.int .i64 (u i)) := by
  rw [H.cell i, hd_get hi]
theorem HxBox.put {w : World} {g : Nat} {u : Nat → Int} (H : HxBox w g u) {i : Nat} (hi : i < 6) (v : Int) : HxBox (w.setCell ⟨g, i, none⟩ (.int .i64 v)) g (fun k => if k = i then v else u k) := by
  have e : w.setCell ⟨g, i, none⟩ (.int .i64 v) = w.setRow g (hdv (fun k => if k = i then v else u k)) := by
    rw [setCell_eq_setRow w g i _ _ _ (.int .i64 v) H, hd_set hi]
  rw [e]
  exact setRow_heap w g _ _ _ _ H
theorem and_low {v j : Nat} (h : v < 65536) (hj : j ≤ 15) : bits .and .i64 (v : Int) ((2 ^ j - 1 : Nat) : Int) = ((v % 2 ^ j : Nat) : Int) := by
  have hm : 2 ^ j - 1 < 65536 := by
    have := Nat.pow_le_pow_right (show 0 < 2 by decide) hj
    have h15 : 2 ^ 15 = 32768 := rfl
    omega
  show IntKind.i64.wrap ((BitVec.ofInt 64 (v : Int) &&& BitVec.ofInt 64 ((2 ^ j - 1 : Nat) : Int)).toNat : Int) = _
  rw [BitVec.toNat_and, BitVec.ofInt_natCast, BitVec.ofInt_natCast, BitVec.toNat_ofNat, BitVec.toNat_ofNat, Nat.mod_eq_of_lt (by omega), Nat.mod_eq_of_lt (by omega), Nat.and_two_pow_sub_one_eq_mod, IntKind.wrap_i64]
  have := Nat.mod_le v (2 ^ j)
  omega
theorem within_any (v m : Int) (w : World) : Calls Tryz.prog 57 #[.int .i64 v, .int .i64 m] w fun e w' => e = .returned (.bool (decide (0 ≤ v ∧ v ≤ m))) ∧ w = w' := by
  by_cases h0 : 0 ≤ v
  · by_cases h1 : v ≤ m
    · rw [decide_eq_true (⟨h0, h1⟩ : 0 ≤ v ∧ v ≤ m)]
      go_enter Tryz.func57, Tryz.ntmps57
      go_wp2
      go_ret
      exact ⟨rfl, rfl⟩
    · rw [decide_eq_false (show ¬ (0 ≤ v ∧ v ≤ m) from fun h => h1 h.2)]
      go_enter Tryz.func57, Tryz.ntmps57
      go_wp2
      go_ret
      exact ⟨rfl, rfl⟩
  · rw [decide_eq_false (show ¬ (0 ≤ v ∧ v ≤ m) from fun h => h0 h.1)]
    go_enter Tryz.func57, Tryz.ntmps57
    go_wp2
    go_ret
    exact ⟨rfl, rfl⟩
set_option maxHeartbeats 2000000 in
theorem rightM_any (mh : Mh) (sq sa su se : Sl) (w : World) : Calls Tryz.prog 27 #[.agg (msv mh sq sa su se)] w fun e w' => e = .returned (.bool (decide (rightH mh))) ∧ Below w.heap.size w w' := by
  have a1 := MsBox.new w mh sq sa su se
  have b1 : Below w.heap.size w (w.alloc (.cells (msv mh sq sa su se) 26)) := (Below.refl _ _).alloc (Nat.le_refl _) _
  obtain ⟨W, hW⟩ : ∃ W, w.alloc (.cells (msv mh sq sa su se) 26) = W := ⟨_, rfl⟩
  rw [hW] at a1 b1
  have HW := Lib.hid hW
  have c0 : W.cell? ⟨w.heap.size, 0, none⟩ = some (.int .i64 mh.id) := a1.cell 0
  have c2 : W.cell? ⟨w.heap.size, 2, none⟩ = some (.int .i64 mh.opcode) := a1.cell 2
  have c3 : W.cell? ⟨w.heap.size, 3, none⟩ = some (.int .i64 mh.code) := a1.cell 3
  have c4 : W.cell? ⟨w.heap.size, 4, none⟩ = some (.int .i64 mh.flags) := a1.cell 4
  have HA := Lib.hid (And.intro a1 b1)
  clear a1 b1 hW
  by_cases h0 : 0 ≤ mh.id ∧ mh.id ≤ 65535
  case neg =>
    --<< a
    rw [decide_eq_false (show ¬ rightH mh from fun h => h0 h.1)]
    go_enter Tryz.func27, Tryz.ntmps27
    go_wp2_with (rw [HW.out])
    refine (within_any _ _ _).mono ?_
    rintro e w1 ⟨rfl, rfl⟩
    rw [decide_eq_false h0]
    go_wp2_with fail
    go_ret
    exact ⟨rfl, HA.out.2⟩
    -->>
  by_cases h1 : 0 ≤ mh.opcode ∧ mh.opcode ≤ 15
  case neg =>
    --<< b
    rw [decide_eq_false (show ¬ rightH mh from fun h => h1 h.2.1)]
    go_enter Tryz.func27, Tryz.ntmps27
    go_wp2_with (rw [HW.out])
    refine (within_any _ _ _).mono ?_
    rintro e w1 ⟨rfl, rfl⟩
    rw [decide_eq_true h0]
    go_wp2_with fail
    refine (within_any _ _ _).mono ?_
    rintro e w1 ⟨rfl, rfl⟩
    rw [decide_eq_false h1]
    go_wp2_with fail
    go_ret
    exact ⟨rfl, HA.out.2⟩
    -->>
  by_cases h2 : 0 ≤ mh.flags ∧ mh.flags ≤ 127
  case neg =>
    --<< c
    rw [decide_eq_false (show ¬ rightH mh from fun h => h2 h.2.2.1)]
    go_enter Tryz.func27, Tryz.ntmps27
    go_wp2_with (rw [HW.out])
    refine (within_any _ _ _).mono ?_
    rintro e w1 ⟨rfl, rfl⟩
    rw [decide_eq_true h0]
    go_wp2_with fail
    refine (within_any _ _ _).mono ?_
    rintro e w1 ⟨rfl, rfl⟩
    rw [decide_eq_true h1]
    go_wp2_with fail
    refine (within_any _ _ _).mono ?_
    rintro e w1 ⟨rfl, rfl⟩
    rw [decide_eq_false h2]
    go_wp2_with fail
    go_ret
    exact ⟨rfl, HA.out.2⟩
    -->>
  by_cases h3 : 0 ≤ mh.code ∧ mh.code ≤ 15
  case neg =>
    --<< d
    rw [decide_eq_false (show ¬ rightH mh from fun h => h3 h.2.2.2)]
    go_enter Tryz.func27, Tryz.ntmps27
    go_wp2_with (rw [HW.out])
    refine (within_any _ _ _).mono ?_
    rintro e w1 ⟨rfl, rfl⟩
    rw [decide_eq_true h0]
    go_wp2_with fail
    refine (within_any _ _ _).mono ?_
    rintro e w1 ⟨rfl, rfl⟩
    rw [decide_eq_true h1]
    go_wp2_with fail
    refine (within_any _ _ _).mono ?_
    rintro e w1 ⟨rfl, rfl⟩
    rw [decide_eq_true h2]
    go_wp2_with fail
    refine (within_any _ _ _).mono ?_
    rintro e w1 ⟨rfl, rfl⟩
    rw [decide_eq_false h3]
    go_wp2_with fail
    go_ret
    exact ⟨rfl, HA.out.2⟩
    -->>
  --<< f
  rw [decide_eq_true (show rightH mh from ⟨h0, h1, h2, h3⟩)]
  go_enter Tryz.func27, Tryz.ntmps27
  go_wp2_with (rw [HW.out])
  refine (within_any _ _ _).mono ?_
  rintro e w1 ⟨rfl, rfl⟩
  rw [decide_eq_true h0]
  go_wp2_with fail
  refine (within_any _ _ _).mono ?_
  rintro e w1 ⟨rfl, rfl⟩
  rw [decide_eq_true h1]
  go_wp2_with fail
  refine (within_any _ _ _).mono ?_
  rintro e w1 ⟨rfl, rfl⟩
  rw [decide_eq_true h2]
  go_wp2_with fail
  refine (within_any _ _ _).mono ?_
  rintro e w1 ⟨rfl, rfl⟩
  rw [decide_eq_true h3]
  go_wp2_with fail
  go_ret
  exact ⟨rfl, HA.out.2⟩
  -->>
set_option maxHeartbeats 2000000 in
theorem together_any {g : Nat} {u : Nat → Int} {w : World} (H : HxBox w g u) (h0 : ∀ i, 0 ≤ u i) (h1 : ∀ i, u i ≤ 1000000000000000000) : Calls Tryz.prog 19 #[.slice (some ⟨g, 2, none⟩) 4 4] w fun e w' => e = .returned (.int .i64 (u 2 + u 3 + u 4 + u 5)) ∧ w = w' := by
  --<< e
  have c2 := H.at_ (i := 2) (by decide)
  have c3 := H.at_ (i := 3) (by decide)
  have c4 := H.at_ (i := 4) (by decide)
  have c5 := H.at_ (i := 5) (by decide)
  have p2 := h0 2
  have p3 := h0 3
  have p4 := h0 4
  have p5 := h0 5
  have q2 := h1 2
  have q3 := h1 3
  have q4 := h1 4
  have q5 := h1 5
  clear h0 h1 H
  go_enter Tryz.func19, Tryz.ntmps19
  go_wp2_with fail
  go_loopw [3, 8] (fun s i wr => w = wr ∧ ((i = .int .i64 0 ∧ s = .int .i64 0) ∨ (i = .int .i64 1 ∧ s = .int .i64 (u 2)) ∨ (i = .int .i64 2 ∧ s = .int .i64 (u 2 + u 3)) ∨ (i = .int .i64 3 ∧ s = .int .i64 (u 2 + u 3 + u 4)) ∨ (i = .int .i64 4 ∧ s = .int .i64 (u 2 + u 3 + u 4 + u 5)))) (fun _ i _ => 4 - (intOf i).toNat)
  case atStart => exact ⟨rfl, .inl ⟨rfl, rfl⟩⟩
  case round =>
    obtain ⟨rfl, ⟨rfl, rfl⟩ | ⟨rfl, rfl⟩ | ⟨rfl, rfl⟩ | ⟨rfl, rfl⟩ | ⟨rfl, rfl⟩⟩ := hrel
    · go_wp2_with fail
      go_roundw
      case rel => exact ⟨trivial, .inr (.inl ⟨rfl, by go_num⟩)⟩
      case measure => simp [intOf]
    · go_wp2_with fail
      go_roundw
      case rel => exact ⟨trivial, .inr (.inr (.inl ⟨rfl, by go_num⟩))⟩
      case measure => simp [intOf]
    · go_wp2_with fail
      go_roundw
      case rel => exact ⟨trivial, .inr (.inr (.inr (.inl ⟨rfl, by go_num⟩)))⟩
      case measure => simp [intOf]
    · go_wp2_with fail
      go_roundw
      case rel => exact ⟨trivial, .inr (.inr (.inr (.inr ⟨rfl, by go_num⟩)))⟩
      case measure => simp [intOf]
    · go_wp2_with fail
      go_ret
      exact ⟨rfl, rfl⟩
  -->>
set_option maxHeartbeats 2000000 in
theorem begun_any (u : Nat → Int) (x0 x1 : Nat) (h0 : u 0 = x0) (h1 : u 1 = x1) (_ : x0 < 65536) (hx1 : x1 < 65536) (w : World) : Calls Tryz.prog 49 #[.agg (hdv u)] w fun e w' => e = .returned (.agg (msv (begunV x0 x1) .zero .zero .zero .zero)) ∧ Below w.heap.size w w' := by
  have a1 := HxBox.new w u
  have b1 : Below w.heap.size w (w.alloc (.cells (hdv u) 61)) := (Below.refl _ _).alloc (Nat.le_refl _) _
  obtain ⟨W, hW⟩ : ∃ W, w.alloc (.cells (hdv u) 61) = W := ⟨_, rfl⟩
  rw [hW] at a1 b1
  have HW := Lib.hid hW
  have c0 := a1.at_ (i := 0) (by decide)
  have c1 := a1.at_ (i := 1) (by decide)
  rw [h0] at c0
  rw [h1] at c1
  have hb : ((u 1 / 32768 == 1) : Bool) = decide (x1 / 32768 = 1) := by
    rw [h1, show (x1 : Int) / 32768 = ((x1 / 32768 : Nat) : Int) from rfl]
    by_cases h : x1 / 32768 = 1
    · rw [h]; rfl
    · rw [decide_eq_false h]
      exact beq_eq_false_iff_ne.2 (by omega)
  have hval : Value.agg #[.int .i64 (u 0), .bool (u 1 / 32768 == 1), .int .i64 (bits .and .i64 (u 1 / 2048) 15), .int .i64 (bits .and .i64 (u 1) 15), .int .i64 (bits .and .i64 (u 1 / 16) 127), .slice none 0 0, .slice none 0 0, .slice none 0 0, .slice none 0 0] = .agg (msv (begunV x0 x1) .zero .zero .zero .zero) := by
    rw [hb, h0, h1, show (x1 : Int) / 2048 = ((x1 / 2048 : Nat) : Int) from rfl, show (x1 : Int) / 16 = ((x1 / 16 : Nat) : Int) from rfl]
    have e1 := and_low (v := x1 / 2048) (j := 4) (by omega) (by decide)
    have e2 := and_low (v := x1) (j := 4) (by omega) (by decide)
    have e3 := and_low (v := x1 / 16) (j := 7) (by omega) (by decide)
    rw [show ((2 ^ 4 - 1 : Nat) : Int) = 15 from rfl] at e1 e2
    rw [show ((2 ^ 7 - 1 : Nat) : Int) = 127 from rfl] at e3
    rw [e1, e2, e3]
    rfl
  have p1 : 0 ≤ u 1 ∧ u 1 < 65536 := by omega
  have HA := Lib.hid (And.intro a1 b1)
  have HV := Lib.hid hval
  clear a1 b1 hW h0 h1 hb hval c0 c1
  --<< g
  go_enter Tryz.func49, Tryz.ntmps49
  go_wp2_with (first
    | (refine wpList_store_ms rfl (.tmp 2) (.tmp 19) rfl (begunV x0 x1) .zero .zero .zero .zero rfl HV.out H2.out.2.1 ?_; intro w3 a3 o3 z3 g3; have H3 := Lib.hid (And.intro a3 (g3 w.heap.size w HA.out.2.size H2.out.2.2)); clear a3 o3 z3 g3)
    | (rw [HW.out]; refine wpList_alloc_ms rfl rfl ?_; intro w2 a2 b2 z2; have H2 := Lib.hid (And.intro (HA.out.1.later b2 (Nat.le_refl _)) (And.intro a2 (HA.out.2.trans (b2.mono HA.out.2.size)))); have d0 := H2.out.1.at_ (i := 0) (by decide); have d1 := H2.out.1.at_ (i := 1) (by decide); clear a2 b2 z2))
  exact bodyPost_ret (results_cell_row rfl _ _ W.heap.size 26 _ (0, 0) _ rfl H3.out.1 Tryz.underlying26 rfl (ms_size _ _ _ _ _)) rfl ⟨rfl, H3.out.2⟩
  -->>
/-- The numbers that a message is written with. -/
def hdU (id b q a u e : Int) (i : Nat) : Int := match i with | 0 => id | 1 => b | 2 => q | 3 => a | 4 => u | _ => e
theorem or_off {a b k : Nat} (h : b < 2 ^ k) : a * 2 ^ k ||| b = a * 2 ^ k + b := by
  rw [← Nat.shiftLeft_eq, Nat.shiftLeft_add_eq_or_of_lt h]
def rawB (mh : Mh) : Int := bits .or .i64 (bits .or .i64 (wrap64 (mh.opcode * 2048)) (wrap64 (mh.flags * 16))) mh.code
theorem rawB_eq {mh : Mh} (h : rightH mh) : rawB mh = mh.opcode * 2048 + mh.flags * 16 + mh.code ∧ (0 ≤ rawB mh ∧ rawB mh < 32768) ∧ bits .or .i64 (rawB mh) 32768 = rawB mh + 32768 := by
  obtain ⟨_, ⟨h1, h2⟩, ⟨h3, h4⟩, h5, h6⟩ := h
  have key : rawB mh = mh.opcode * 2048 + mh.flags * 16 + mh.code := by
    unfold rawB
    obtain ⟨o, ho⟩ : ∃ o : Nat, mh.opcode = o := ⟨mh.opcode.toNat, by omega⟩
    obtain ⟨f, hf⟩ : ∃ f : Nat, mh.flags = f := ⟨mh.flags.toNat, by omega⟩
    obtain ⟨c, hc⟩ : ∃ c : Nat, mh.code = c := ⟨mh.code.toNat, by omega⟩
    rw [ho] at h1 h2 ⊢
    rw [hf] at h3 h4 ⊢
    rw [hc] at h5 h6 ⊢
    have e1 : o * 2 ^ 11 ||| f * 16 = o * 2 ^ 11 + f * 16 := or_off (by show f * 16 < 2048; omega)
    have e2 : (o * 128 + f) * 2 ^ 4 ||| c = (o * 128 + f) * 2 ^ 4 + c := or_off (by show c < 16; omega)
    rw [show wrap64 ((o : Int) * 2048) = ((o * 2 ^ 11 : Nat) : Int) by unfold wrap64; omega, show wrap64 ((f : Int) * 16) = ((f * 16 : Nat) : Int) by unfold wrap64; omega, i64_or_nat' _ _ (by omega) (by omega), e1, show o * 2 ^ 11 + f * 16 = (o * 128 + f) * 2 ^ 4 by omega, i64_or_nat' _ _ (by omega) (by omega), e2]
    omega
  refine ⟨key, by omega, ?_⟩
  obtain ⟨x, hx⟩ : ∃ x : Nat, rawB mh = x := ⟨(rawB mh).toNat, by omega⟩
  have e3 : 1 * 2 ^ 15 ||| x = 1 * 2 ^ 15 + x := or_off (by show x < 32768; omega)
  rw [hx, show (32768 : Int) = ((1 * 2 ^ 15 : Nat) : Int) from rfl, i64_or_nat' _ _ (by omega) (by omega), Nat.or_comm, e3]
  omega
set_option maxHeartbeats 2000000 in
theorem headFor_any (mh : Mh) (sq sa su se : Sl) (w : World) : Calls Tryz.prog 26 #[.agg (msv mh sq sa su se)] w fun e w' => ∃ B, e = .returned (.agg (hdv (hdU mh.id B sq.n sa.n su.n se.n))) ∧ (rightH mh → B = bitsV mh) ∧ Below w.heap.size w w' := by
  have a1 := MsBox.new w mh sq sa su se
  have b1 : Below w.heap.size w (w.alloc (.cells (msv mh sq sa su se) 26)) := (Below.refl _ _).alloc (Nat.le_refl _) _
  obtain ⟨W, hW⟩ : ∃ W, w.alloc (.cells (msv mh sq sa su se) 26) = W := ⟨_, rfl⟩
  rw [hW] at a1 b1
  have HW := Lib.hid hW
  have HA := Lib.hid (And.intro a1 b1)
  clear a1 b1 hW
  cases hr : mh.reply
  case false =>
    --<< h
    go_enter Tryz.func26, Tryz.ntmps26
    go_wp2_with (first
      | (refine wpList_store_hd rfl (.tmp 2) (.tmp 33) rfl (hdU mh.id (rawB mh) sq.n sa.n su.n se.n) rfl rfl H2.out.2.1 ?_; intro w3 a3 o3 z3 g3; have H3 := Lib.hid (And.intro a3 (g3 w.heap.size w HA.out.2.size H2.out.2.2)); clear a3 o3 z3 g3)
      | (rw [HW.out]; refine wpList_alloc_hd rfl rfl ?_; intro w2 a2 b2 z2; have H2 := Lib.hid (And.intro (HA.out.1.later b2 (Nat.le_refl _)) (And.intro a2 (HA.out.2.trans (b2.mono HA.out.2.size)))); (have c0 : w2.cell? ⟨w.heap.size, 0, none⟩ = some (.int .i64 mh.id) := H2.out.1.cell 0); (have c1 : w2.cell? ⟨w.heap.size, 1, none⟩ = some (.bool mh.reply) := H2.out.1.cell 1); rw [hr] at c1; (have c2 : w2.cell? ⟨w.heap.size, 2, none⟩ = some (.int .i64 mh.opcode) := H2.out.1.cell 2); (have c3 : w2.cell? ⟨w.heap.size, 3, none⟩ = some (.int .i64 mh.code) := H2.out.1.cell 3); (have c4 : w2.cell? ⟨w.heap.size, 4, none⟩ = some (.int .i64 mh.flags) := H2.out.1.cell 4); (have c5 : w2.cell? ⟨w.heap.size, 5, none⟩ = some (.slice sq.A sq.n sq.c) := H2.out.1.cell 5); (have c6 : w2.cell? ⟨w.heap.size, 6, none⟩ = some (.slice sa.A sa.n sa.c) := H2.out.1.cell 6); (have c7 : w2.cell? ⟨w.heap.size, 7, none⟩ = some (.slice su.A su.n su.c) := H2.out.1.cell 7); (have c8 : w2.cell? ⟨w.heap.size, 8, none⟩ = some (.slice se.A se.n se.c) := H2.out.1.cell 8); clear a2 b2 z2))
    exact bodyPost_ret (results_cell_row rfl _ _ W.heap.size 61 _ (0, 0) _ rfl H3.out.1 Tryz.underlying61 rfl (hd_size _)) rfl ⟨rawB mh, rfl, (fun h => by unfold bitsV; rw [hr, (rawB_eq h).1]; simp), H3.out.2⟩
    -->>
  case true =>
    --<< i
    go_enter Tryz.func26, Tryz.ntmps26
    go_wp2_with (first
      | (refine wpList_store_hd rfl (.tmp 2) (.tmp 33) rfl (hdU mh.id (bits .or .i64 (rawB mh) 32768) sq.n sa.n su.n se.n) rfl rfl H2.out.2.1 ?_; intro w3 a3 o3 z3 g3; have H3 := Lib.hid (And.intro a3 (g3 w.heap.size w HA.out.2.size H2.out.2.2)); clear a3 o3 z3 g3)
      | (rw [HW.out]; refine wpList_alloc_hd rfl rfl ?_; intro w2 a2 b2 z2; have H2 := Lib.hid (And.intro (HA.out.1.later b2 (Nat.le_refl _)) (And.intro a2 (HA.out.2.trans (b2.mono HA.out.2.size)))); (have c0 : w2.cell? ⟨w.heap.size, 0, none⟩ = some (.int .i64 mh.id) := H2.out.1.cell 0); (have c1 : w2.cell? ⟨w.heap.size, 1, none⟩ = some (.bool mh.reply) := H2.out.1.cell 1); rw [hr] at c1; (have c2 : w2.cell? ⟨w.heap.size, 2, none⟩ = some (.int .i64 mh.opcode) := H2.out.1.cell 2); (have c3 : w2.cell? ⟨w.heap.size, 3, none⟩ = some (.int .i64 mh.code) := H2.out.1.cell 3); (have c4 : w2.cell? ⟨w.heap.size, 4, none⟩ = some (.int .i64 mh.flags) := H2.out.1.cell 4); (have c5 : w2.cell? ⟨w.heap.size, 5, none⟩ = some (.slice sq.A sq.n sq.c) := H2.out.1.cell 5); (have c6 : w2.cell? ⟨w.heap.size, 6, none⟩ = some (.slice sa.A sa.n sa.c) := H2.out.1.cell 6); (have c7 : w2.cell? ⟨w.heap.size, 7, none⟩ = some (.slice su.A su.n su.c) := H2.out.1.cell 7); (have c8 : w2.cell? ⟨w.heap.size, 8, none⟩ = some (.slice se.A se.n se.c) := H2.out.1.cell 8); clear a2 b2 z2))
    exact bodyPost_ret (results_cell_row rfl _ _ W.heap.size 61 _ (0, 0) _ rfl H3.out.1 Tryz.underlying61 rfl (hd_size _)) rfl ⟨bits .or .i64 (rawB mh) 32768, rfl, (fun h => by unfold bitsV; rw [hr, (rawB_eq h).2.2, (rawB_eq h).1]; simp), H3.out.2⟩
    -->>
theorem hd_index0 (u : Nat → Int) (w : World) : (Instr.index 61 (.agg (hdv u)) (.int .i64 0)).run Tryz.prog w = .ok (.int .i64 (u 0)) w := by kernel_rfl
theorem hd_index1 (u : Nat → Int) (w : World) : (Instr.index 61 (.agg (hdv u)) (.int .i64 1)).run Tryz.prog w = .ok (.int .i64 (u 1)) w := by kernel_rfl
theorem hd_index2 (u : Nat → Int) (w : World) : (Instr.index 61 (.agg (hdv u)) (.int .i64 2)).run Tryz.prog w = .ok (.int .i64 (u 2)) w := by kernel_rfl
theorem hd_index3 (u : Nat → Int) (w : World) : (Instr.index 61 (.agg (hdv u)) (.int .i64 3)).run Tryz.prog w = .ok (.int .i64 (u 3)) w := by kernel_rfl
theorem hd_index4 (u : Nat → Int) (w : World) : (Instr.index 61 (.agg (hdv u)) (.int .i64 4)).run Tryz.prog w = .ok (.int .i64 (u 4)) w := by kernel_rfl
theorem hd_index5 (u : Nat → Int) (w : World) : (Instr.index 61 (.agg (hdv u)) (.int .i64 5)).run Tryz.prog w = .ok (.int .i64 (u 5)) w := by kernel_rfl
theorem hd_index (u : Nat → Int) {k : Nat} (hk : k < 6) (w : World) : (Instr.index 61 (.agg (hdv u)) (.int .i64 (k : Int))).run Tryz.prog w = .ok (.int .i64 (u k)) w := by
  match k, hk with
  | 0, _ => exact hd_index0 u w
  | 1, _ => exact hd_index1 u w
  | 2, _ => exact hd_index2 u w
  | 3, _ => exact hd_index3 u w
  | 4, _ => exact hd_index4 u w
  | 5, _ => exact hd_index5 u w
def hdP (u : Nat → Int) : Nat → List UInt8
  | 0 => []
  | k + 1 => hdP u k ++ putn (u k) 2
set_option maxHeartbeats 2000000 in
theorem headBytes_any (u : Nat → Int) (w : World) : Calls Tryz.prog 34 #[.agg (hdv u)] w fun e w' => ∃ A c, e = .returned (.slice A 12 c) ∧ Bs w' A 12 c (putn (u 0) 2 ++ (putn (u 1) 2 ++ (putn (u 2) 2 ++ (putn (u 3) 2 ++ (putn (u 4) 2 ++ putn (u 5) 2))))) ∧ Below w.heap.size w w' := by
  have a1 := HxBox.new w u
  have b1 : Below w.heap.size w (w.alloc (.cells (hdv u) 61)) := (Below.refl _ _).alloc (Nat.le_refl _) _
  obtain ⟨W, hW⟩ : ∃ W, w.alloc (.cells (hdv u) 61) = W := ⟨_, rfl⟩
  rw [hW] at a1 b1
  have HW := Lib.hid hW
  have HA := Lib.hid (And.intro a1 b1)
  clear a1 b1 hW
  --<< k
  go_enter Tryz.func34, Tryz.ntmps34
  go_wp2_with (first | (refine wpList_load_hd rfl (.tmp 1) rfl rfl HA.out.1 ?_) | (rw [HW.out]))
  go_loopw [3, 7] (fun b i wr => ∃ k : Nat, k ≤ 6 ∧ i = .int .i64 k ∧ ∃ A c, b = .slice A (2 * k) c ∧ Bs wr A (2 * k) c (hdP u k) ∧ Below w.heap.size w wr) (fun _ i _ => 6 - (intOf i).toNat)
  case atStart => exact ⟨0, by omega, rfl, none, 0, rfl, Bs.nil _, HA.out.2⟩
  case round =>
    obtain ⟨k, hk, rfl, A, c, rfl, hB, hbe⟩ := hrel
    have HO := Lib.hid (And.intro hB hbe)
    clear hB hbe
    by_cases hlt : k < 6
    · have hix := hd_index u hlt
      go_wp2_with fail
      refine (put16_any HO.out.1 (u k) (by omega)).mono ?_
      rintro e w1 ⟨v1, rfl, o1, b1⟩
      obtain ⟨A1, c1, rfl, B1⟩ := Bs.of_own o1
      have H1 := Lib.hid (And.intro B1 (HO.out.2.trans (b1.mono HO.out.2.size)))
      clear o1 b1 B1
      go_wp2_with fail
      go_roundw
      case rel => exact ⟨k + 1, by omega, by go_num, A1, c1, rfl, H1.out⟩
      case measure => simp [intOf]; omega
    · obtain rfl : k = 6 := by omega
      go_wp2_with fail
      go_ret
      refine ⟨A, c, rfl, ?_, HO.out.2⟩
      have hz := HO.out.1
      unfold hdP hdP hdP hdP hdP hdP hdP at hz
      simpa using hz
  -->>
/-- The head's numbers, so far. -/
def uK (l : List UInt8) (k : Nat) (j : Nat) : Int := if j < k then (hdN l j : Int) else 0
theorem uK_next (l : List UInt8) (k : Nat) : (fun j => if j = k then (hdN l k : Int) else uK l k j) = uK l (k + 1) := by
  funext j
  unfold uK
  by_cases h : j = k
  · rw [if_pos h, if_pos (by omega), h]
  · rw [if_neg h]
    by_cases h2 : j < k
    · rw [if_pos h2, if_pos (by omega)]
    · rw [if_neg h2, if_neg (by omega)]
theorem uK_zero (l : List UInt8) : uK l 0 = fun _ => 0 := by funext j; unfold uK; rw [if_neg (by omega)]
set_option maxHeartbeats 2000000 in
theorem headOf_any {A : Option Addr} {n c : Nat} {l : List UInt8} {w : World} (hb : Bs w A n c l) (h47 : n ≤ 140737488350000) : Calls Tryz.prog 18 #[.slice A n c] w fun e w' => (12 ≤ n → e = .returned (.tuple #[.agg (hdv (uK l 6)), .nilIface])) ∧ (n < 12 → ∃ T x, e = .returned (.tuple #[.agg (hdv fun _ => 0), .iface T x]) ∧ Tells w' (.iface T x) ⟨3, 0, true⟩) ∧ Below w.heap.size w w' := by
  have HB := Lib.hid hb
  clear hb
  --<< m
  go_enter Tryz.func18, Tryz.ntmps18
  go_wp2_with (first
    | (refine wpList_alloc_hd rfl rfl ?_; intro w2 a2 b2 z2; have H2 := Lib.hid (And.intro (H1.out.1.later b2 (Nat.le_refl _)) (And.intro a2 (H1.out.2.trans (b2.mono H1.out.2.size)))); have HG := Lib.hid H1.out.1.lt; clear a2 b2 z2)
    | (refine wpList_alloc_hd rfl rfl ?_; intro w1 a1 b1 z1; have H1 := Lib.hid (And.intro a1 b1); clear a1 b1 z1))
  go_loopw [8] (fun i wr => ∃ k : Nat, k ≤ 6 ∧ 2 * k ≤ n ∧ i = .int .i64 k ∧ HxBox wr w.heap.size (fun _ => 0) ∧ HxBox wr w1.heap.size (uK l k) ∧ Below w.heap.size w wr) (fun i _ => 6 - (intOf i).toNat)
  case atStart => exact ⟨0, by omega, by omega, rfl, H2.out.1, by rw [uK_zero]; exact H2.out.2.1, H2.out.2.2⟩
  case round =>
    obtain ⟨k, hk, hkn, rfl, a1, a2, hbe⟩ := hrel
    have HO := Lib.hid (And.intro a1 (And.intro a2 hbe))
    clear a1 a2 hbe
    by_cases hlt : k < 6
    · by_cases hn : 2 * k + 2 ≤ n
      · go_wp2_with fail
        rw [show (k : Int) * 2 = ((2 * k : Nat) : Int) by omega]
        refine (u16_there (HB.out.later HO.out.2.2 (Nat.le_refl _)) h47 hn).mono ?_
        rintro e w3 ⟨rfl, b3⟩
        have H3 := Lib.hid (And.intro (HO.out.1.later b3 (Nat.le_refl _)) (And.intro (HO.out.2.1.later b3 (Nat.le_refl _)) (HO.out.2.2.trans (b3.mono HO.out.2.2.size))))
        clear b3
        go_wp2_with fail
        refine (Is_nil _ _ w3).mono ?_
        rintro e w' ⟨rfl, rfl⟩
        have cc := H3.out.2.1.at_ hlt
        have cf := H3.out.2.1.frozen k
        have hp := H3.out.2.1.put hlt (num2 l (2 * k) : Nat)
        rw [show (fun j => if j = k then ((num2 l (2 * k) : Nat) : Int) else uK l k j) = uK l (k + 1) from uK_next l k] at hp
        have H4 := Lib.hid (And.intro (H3.out.1.same (Below.heap_setCell w3 ⟨w1.heap.size, k, none⟩ (.int .i64 (num2 l (2 * k) : Nat)) _ (Nat.ne_of_lt HG.out))) (And.intro hp (H3.out.2.2.setCell (p := ⟨w1.heap.size, k, none⟩) (Nat.le_of_lt HG.out) (.int .i64 (num2 l (2 * k) : Nat)))))
        clear hp
        go_wp2_with fail
        go_roundw
        case rel => exact ⟨k + 1, by omega, by omega, by go_num, H4.out⟩
        case measure => simp [intOf]; omega
      · go_wp2_with fail
        rw [show (k : Int) * 2 = ((2 * k : Nat) : Int) by omega]
        refine (u16_not (HB.out.later HO.out.2.2 (Nat.le_refl _)) (by omega) (by omega)).mono ?_
        rintro e w3 ⟨z3, T, x, rfl, t3, b3⟩
        have H3 := Lib.hid (And.intro (HO.out.1.later b3 (Nat.le_refl _)) (And.intro t3 (HO.out.2.2.trans (b3.mono HO.out.2.2.size))))
        clear t3 b3
        go_wp2_with fail
        refine (Is_told H3.out.2.1 (show (3 : Int) ≠ 0 by decide) 3).mono ?_
        rintro e w' ⟨rfl, rfl⟩
        go_wp2_with fail
        refine (wrap_told 0 (Tells.bare w3 3 (by decide) 0) (by decide)).mono ?_
        rintro e w5 ⟨v5, rfl, t5, b5⟩
        obtain ⟨T5, x5, rfl⟩ := t5.held' (by decide)
        have H5 := Lib.hid (And.intro (H3.out.1.later b5 (Nat.le_refl _)) (And.intro t5 (H3.out.2.2.trans (b5.mono H3.out.2.2.size))))
        clear t5 b5
        go_wp2_with (refine wpList_store_hd rfl (.tmp 2) (.tmp 21) rfl (fun _ => 0) rfl rfl H5.out.1 ?_; intro w6 a6 o6 z6 g6; have H6 := Lib.hid (And.intro a6 (And.intro (H5.out.2.1.farHx H5.out.1 o6) (g6 w.heap.size w (Nat.le_refl _) H5.out.2.2))); clear a6 o6 z6 g6)
        exact bodyPost_ret (results_hd_tmp rfl _ rfl H6.out.1) rfl ⟨fun h => absurd h (by omega), fun _ => ⟨T5, x5, rfl, H6.out.2.1⟩, H6.out.2.2⟩
    · obtain rfl : k = 6 := by omega
      go_wp2_with (first
        | (refine wpList_store_hd rfl (.tmp 2) (.tmp 28) rfl (uK l 6) rfl rfl HO.out.1 ?_; intro w6 a6 o6 z6 g6; have H6 := Lib.hid (And.intro a6 (g6 w.heap.size w (Nat.le_refl _) HO.out.2.2)); clear a6 o6 z6 g6)
        | (refine wpList_load_hd rfl (.tmp 4) rfl rfl HO.out.2.1 ?_))
      exact bodyPost_ret (results_hd_tmp rfl _ rfl H6.out.1) rfl ⟨fun _ => rfl, fun h => absurd h (by omega), H6.out.2⟩
  -->>
end Go.Proofs.YtbikifaadpijnaaGreatDoor

namespace Go.Proofs.YtbikifaadpijnaaGreatDoor
open Go.RowKit
set_option maxRecDepth 100000

theorem eql_ad (v u : Bool) {a b : List UInt8} (ha : a.length = 16) (hb : b.length = 16) (w : World) : (binOp .eql 55 (.agg (adv v a)) (.agg (adv u b))).run Tryz.prog w = .ok (.bool ((v == u) && (a == b))) w := by
  rw [run_eql_struct]
  have h1 := eqIn_ad 9997 v u ha hb w
  rw [show (10000 : Nat) = 9997 + 3 from rfl] at *
  simp only [h1]
  rfl
theorem bareV_ok {r : Rc} (hk : r.ok) : (bareV r).ok := by
  unfold bareV
  split
  · exact hk
  split
  · exact hk
  split <;> rfl
set_option maxHeartbeats 4000000 in
theorem bare_any {r : Rc} (hk : r.ok) (A : Option Addr) (n c : Nat) (w : World) : Calls Tryz.prog 97 #[.agg (rcv r A n c)] w fun e w' => ∃ A' n' c', e = .returned (.agg (rcv (bareV r) A' n' c')) ∧ DatOf A' n' c' (bareV r).data A n c r.data ∧ Below w.heap.size w w' := by
  have a1 := RcBox.new w hk A n c
  have b1 : Below w.heap.size w (w.alloc (.cells (rcv r A n c) 57)) := (Below.refl _ _).alloc (Nat.le_refl _) _
  obtain ⟨W, hW⟩ : ∃ W, w.alloc (.cells (rcv r A n c) 57) = W := ⟨_, rfl⟩
  rw [hW] at a1 b1
  have HA := Lib.hid (And.intro a1 b1)
  have HW := Lib.hid hW
  have hle : w.heap.size ≤ W.heap.size := b1.size
  clear a1 b1 hW
  unfold bareV
  by_cases h28 : r.kind = 28
  · rw [if_pos h28]
    obtain ⟨name, kind, cls, ttl, v6, adr, target, data⟩ := r
    dsimp only at h28 ⊢
    subst h28
    go_enter Tryz.func97, Tryz.ntmps97
    go_wp2_with (first
      | (refine wpList_store_rc rfl (.tmp 2) (.tmp 25) rfl ⟨[], 0, 0, 0, true, adr, [], []⟩ none 0 0 rfl rfl HA.out.1.2 H5.out.1 ?_; intro w6 a6 o6 z6 g6; have H6 := Lib.hid (And.intro a6 (g6 w.heap.size w hle H5.out.2.2)); clear a6 o6 z6 g6)
      | (refine wpList_load_rc rfl (.tmp 3) rfl rfl H5.out.2.1 ?_)
      | (refine wpList_store_rcB rfl (.tmp 18) (.tmp 16) rfl rfl rfl HA.out.1.2 H4.out.2.1 ?_; intro w5 a5 o5 z5 g5; have H5 := Lib.hid (And.intro (H4.out.1.same (o5 _ (Nat.ne_of_lt H2.out.1.lt))) (And.intro (show RcBox w5 w2.heap.size ⟨[], 0, 0, 0, true, adr, [], []⟩ none 0 0 from a5) (g5 w.heap.size w H2.out.2.2.size H4.out.2.2.2))); clear a5 o5 z5 g5)
      | (refine wpList_load_rcB rfl (.tmp 15) rfl rfl H4.out.2.2.1 ?_)
      | (refine wpList_putV6_rc rfl (.tmp 13) (.const (.bool true)) rfl true rfl rfl H3.out.2.1 ?_; intro w4 a4 o4 z4 g4; have H4 := Lib.hid (And.intro (H3.out.1.same (o4 _ (Nat.ne_of_lt H2.out.1.lt))) (And.intro a4 (And.intro (H3.out.2.2.1.same (o4 _ (Nat.ne_of_lt H2.out.2.1.lt))) (g4 w.heap.size w H2.out.2.2.size H3.out.2.2.2)))); clear a4 o4 z4 g4)
      | (have q2 := H2.out.2.2; refine wpList_alloc_rc rfl rfl ?_; intro w3 a3 b3 z3; have H3 := Lib.hid (And.intro (H2.out.1.later b3 (Nat.le_refl _)) (And.intro a3 (And.intro (H2.out.2.1.later b3 (Nat.le_refl _)) (q2.trans (b3.mono q2.size))))); (have e1 : w3.cell? ⟨w.heap.size, 1, none⟩ = some (.int .i64 28) := H3.out.2.2.1.kind); clear a3 b3 z3 q2)
      | (rw [HW.out]; refine wpList_alloc_rc rfl rfl ?_; intro w2 a2 b2 z2; have H2 := Lib.hid (And.intro a2 (And.intro (HA.out.1.later b2 (Nat.le_refl _)) (HA.out.2.trans (b2.mono HA.out.2.size)))); clear a2 b2 z2))
    exact bodyPost_ret (results_cell_row rfl _ _ W.heap.size 57 _ (0, 0) _ rfl H6.out.1.1 Tryz.underlying57 rfl (rc_size H6.out.1.2 _ _ _)) rfl ⟨none, 0, 0, rfl, .inl ⟨rfl, rfl, rfl, rfl⟩, H6.out.2⟩
  rw [if_neg h28]
  by_cases h1 : r.kind = 1
  · rw [if_pos h1]
    obtain ⟨name, kind, cls, ttl, v6, adr, target, data⟩ := r
    dsimp only at h1 h28 ⊢
    subst h1
    clear h28
    go_enter Tryz.func97, Tryz.ntmps97
    go_wp2_with (first
      | (refine wpList_store_rc rfl (.tmp 2) (.tmp 25) rfl ⟨[], 0, 0, 0, false, adr, [], []⟩ none 0 0 rfl rfl HA.out.1.2 H5.out.1 ?_; intro w6 a6 o6 z6 g6; have H6 := Lib.hid (And.intro a6 (g6 w.heap.size w hle H5.out.2.2)); clear a6 o6 z6 g6)
      | (refine wpList_load_rc rfl (.tmp 3) rfl rfl H5.out.2.1 ?_)
      | (refine wpList_store_rcB rfl (.tmp 18) (.tmp 16) rfl rfl rfl HA.out.1.2 H3.out.2.1 ?_; intro w5 a5 o5 z5 g5; have H5 := Lib.hid (And.intro (H3.out.1.same (o5 _ (Nat.ne_of_lt H2.out.1.lt))) (And.intro (show RcBox w5 w2.heap.size ⟨[], 0, 0, 0, false, adr, [], []⟩ none 0 0 from a5) (g5 w.heap.size w H2.out.2.2.size H3.out.2.2.2))); clear a5 o5 z5 g5)
      | (refine wpList_load_rcB rfl (.tmp 15) rfl rfl H3.out.2.2.1 ?_)
      | (have q2 := H2.out.2.2; refine wpList_alloc_rc rfl rfl ?_; intro w3 a3 b3 z3; have H3 := Lib.hid (And.intro (H2.out.1.later b3 (Nat.le_refl _)) (And.intro a3 (And.intro (H2.out.2.1.later b3 (Nat.le_refl _)) (q2.trans (b3.mono q2.size))))); (have e1 : w3.cell? ⟨w.heap.size, 1, none⟩ = some (.int .i64 1) := H3.out.2.2.1.kind); clear a3 b3 z3 q2)
      | (rw [HW.out]; refine wpList_alloc_rc rfl rfl ?_; intro w2 a2 b2 z2; have H2 := Lib.hid (And.intro a2 (And.intro (HA.out.1.later b2 (Nat.le_refl _)) (HA.out.2.trans (b2.mono HA.out.2.size)))); clear a2 b2 z2))
    exact bodyPost_ret (results_cell_row rfl _ _ W.heap.size 57 _ (0, 0) _ rfl H6.out.1.1 Tryz.underlying57 rfl (rc_size H6.out.1.2 _ _ _)) rfl ⟨none, 0, 0, rfl, .inl ⟨rfl, rfl, rfl, rfl⟩, H6.out.2⟩
  rw [if_neg h1]
  by_cases h5 : r.kind = 5
  · rw [if_pos h5]
    obtain ⟨name, kind, cls, ttl, v6, adr, target, data⟩ := r
    dsimp only at h1 h28 h5 ⊢
    subst h5
    clear h28 h1
    go_enter Tryz.func97, Tryz.ntmps97
    go_wp2_with (first
      | (refine wpList_store_rc rfl (.tmp 2) (.tmp 25) rfl ⟨[], 0, 0, 0, false, zero16, target, []⟩ none 0 0 rfl rfl rfl H5.out.1 ?_; intro w6 a6 o6 z6 g6; have H6 := Lib.hid (And.intro a6 (g6 w.heap.size w hle H5.out.2.2)); clear a6 o6 z6 g6)
      | (refine wpList_load_rc rfl (.tmp 3) rfl rfl H5.out.2.1 ?_)
      | (refine wpList_putTarget_rc rfl (.tmp 21) (.tmp 20) rfl target rfl rfl H3.out.2.1 ?_; intro w5 a5 o5 z5 g5; have H5 := Lib.hid (And.intro (H3.out.1.same (o5 _ (Nat.ne_of_lt H2.out.1.lt))) (And.intro (show RcBox w5 w2.heap.size ⟨[], 0, 0, 0, false, zero16, target, []⟩ none 0 0 from a5) (g5 w.heap.size w H2.out.2.2.size H3.out.2.2.2))); clear a5 o5 z5 g5)
      | (have q2 := H2.out.2.2; refine wpList_alloc_rc rfl rfl ?_; intro w3 a3 b3 z3; have H3 := Lib.hid (And.intro (H2.out.1.later b3 (Nat.le_refl _)) (And.intro a3 (And.intro (H2.out.2.1.later b3 (Nat.le_refl _)) (q2.trans (b3.mono q2.size))))); (have e1 : w3.cell? ⟨w.heap.size, 1, none⟩ = some (.int .i64 5) := H3.out.2.2.1.kind); (have e21 : w3.cell? ⟨w.heap.size, 21, none⟩ = some (.string (mkS target)) := H3.out.2.2.1.target); clear a3 b3 z3 q2)
      | (rw [HW.out]; refine wpList_alloc_rc rfl rfl ?_; intro w2 a2 b2 z2; have H2 := Lib.hid (And.intro a2 (And.intro (HA.out.1.later b2 (Nat.le_refl _)) (HA.out.2.trans (b2.mono HA.out.2.size)))); clear a2 b2 z2))
    exact bodyPost_ret (results_cell_row rfl _ _ W.heap.size 57 _ (0, 0) _ rfl H6.out.1.1 Tryz.underlying57 rfl (rc_size H6.out.1.2 _ _ _)) rfl ⟨none, 0, 0, rfl, .inl ⟨rfl, rfl, rfl, rfl⟩, H6.out.2⟩
  · rw [if_neg h5]
    obtain ⟨name, kind, cls, ttl, v6, adr, target, data⟩ := r
    dsimp only at h1 h28 h5 ⊢
    go_enter Tryz.func97, Tryz.ntmps97
    go_wp2_with (first
      | (refine wpList_store_rc rfl (.tmp 2) (.tmp 25) rfl ⟨[], 0, 0, 0, false, zero16, [], data⟩ A n c rfl rfl rfl H5.out.1 ?_; intro w6 a6 o6 z6 g6; have H6 := Lib.hid (And.intro a6 (g6 w.heap.size w hle H5.out.2.2)); clear a6 o6 z6 g6)
      | (refine wpList_load_rc rfl (.tmp 3) rfl rfl H5.out.2.1 ?_)
      | (refine wpList_putData_rc rfl (.tmp 24) (.tmp 23) rfl data A n c rfl rfl H3.out.2.1 ?_; intro w5 a5 o5 z5 g5; have H5 := Lib.hid (And.intro (H3.out.1.same (o5 _ (Nat.ne_of_lt H2.out.1.lt))) (And.intro (show RcBox w5 w2.heap.size ⟨[], 0, 0, 0, false, zero16, [], data⟩ A n c from a5) (g5 w.heap.size w H2.out.2.2.size H3.out.2.2.2))); clear a5 o5 z5 g5)
      | (have q2 := H2.out.2.2; refine wpList_alloc_rc rfl rfl ?_; intro w3 a3 b3 z3; have H3 := Lib.hid (And.intro (H2.out.1.later b3 (Nat.le_refl _)) (And.intro a3 (And.intro (H2.out.2.1.later b3 (Nat.le_refl _)) (q2.trans (b3.mono q2.size))))); (have e1 : w3.cell? ⟨w.heap.size, 1, none⟩ = some (.int .i64 kind) := H3.out.2.2.1.kind); (have e22 : w3.cell? ⟨w.heap.size, 22, none⟩ = some (.slice A n c) := H3.out.2.2.1.data); clear a3 b3 z3 q2)
      | (rw [HW.out]; refine wpList_alloc_rc rfl rfl ?_; intro w2 a2 b2 z2; have H2 := Lib.hid (And.intro a2 (And.intro (HA.out.1.later b2 (Nat.le_refl _)) (HA.out.2.trans (b2.mono HA.out.2.size)))); clear a2 b2 z2))
    exact bodyPost_ret (results_cell_row rfl _ _ W.heap.size 57 _ (0, 0) _ rfl H6.out.1.1 Tryz.underlying57 rfl (rc_size H6.out.1.2 _ _ _)) rfl ⟨A, n, c, rfl, .inr ⟨rfl, rfl, rfl, rfl⟩, H6.out.2⟩
set_option maxHeartbeats 4000000 in
theorem alike_any {r s : Rc} (hr : r.ok) (hs : s.ok) {A B : Option Addr} {n c m d : Nat} {w : World} (hb : Bs w A n c r.data) (hb2 : Bs w B m d s.data) : Calls Tryz.prog 96 #[.agg (rcv r A n c), .agg (rcv s B m d)] w fun e w' => e = .returned (.bool (decide (alikeV r s))) ∧ Below w.heap.size w w' := by
  have a1 := RcBox.new w hr A n c
  have b1 : Below w.heap.size w (w.alloc (.cells (rcv r A n c) 57)) := (Below.refl _ _).alloc (Nat.le_refl _) _
  have a2 := RcBox.new (w.alloc (.cells (rcv r A n c) 57)) hs B m d
  rw [World.size_alloc] at a2
  have b2 : Below (w.heap.size + 1) (w.alloc (.cells (rcv r A n c) 57)) ((w.alloc (.cells (rcv r A n c) 57)).alloc (.cells (rcv s B m d) 57)) := (Below.refl _ _).alloc (by simp) _
  have hA := And.intro (a1.later b2 (by simp)) (And.intro a2 (b1.trans (b2.mono (by omega))))
  obtain ⟨W, hW⟩ : ∃ W, (w.alloc (.cells (rcv r A n c) 57)).alloc (.cells (rcv s B m d) 57) = W := ⟨_, rfl⟩
  rw [hW] at hA
  have ke := Lib.hid (equal_any (hb.later hA.2.2 (Nat.le_refl _)) (hb2.later hA.2.2 (Nat.le_refl _)))
  have e1 := hA.1.target
  have e2 := hA.1.data
  have e3 := hA.2.1.target
  have e4 := hA.2.1.data
  have HA := Lib.hid hA
  have HW := Lib.hid hW
  have heq := eql_ad r.v6 s.v6 hr hs
  have hta := mkS_eq r.target s.target
  clear a1 a2 b1 b2 hA hW hb hb2
  unfold alikeV
  by_cases h1 : r.v6 = s.v6 ∧ r.adr = s.adr
  · rw [show ((r.v6 == s.v6) && (r.adr == s.adr)) = true by rw [h1.1, h1.2, beq_self_eq_true, beq_self_eq_true]; rfl] at heq
    by_cases h2 : r.target = s.target
    · rw [decide_eq_true h2] at hta
      have hdec : decide ((r.v6 = s.v6 ∧ r.adr = s.adr) ∧ r.target = s.target ∧ r.data = s.data) = decide (r.data = s.data) := by
        by_cases h3 : r.data = s.data
        · rw [decide_eq_true h3, decide_eq_true (And.intro h1 (And.intro h2 h3))]
        · rw [decide_eq_false h3, decide_eq_false (fun h => h3 h.2.2)]
      rw [hdec]
      generalize decide (r.data = s.data) = b at ke ⊢
      clear hdec h1 h2
      go_enter Tryz.func96, Tryz.ntmps96
      go_wp2_with (first
        | (rw [HW.out]; refine wpList_load_rcAd rfl (.tmp 5) rfl rfl HA.out.1 ?_)
        | (refine wpList_load_rcAd rfl (.tmp 7) rfl rfl HA.out.2.1 ?_))
      refine ke.out.mono ?_
      rintro e w' ⟨rfl, rfl⟩
      go_wp2_with fail
      go_ret
      exact ⟨rfl, HA.out.2.2⟩
    · rw [decide_eq_false h2] at hta
      rw [decide_eq_false (show ¬ ((r.v6 = s.v6 ∧ r.adr = s.adr) ∧ r.target = s.target ∧ r.data = s.data) from fun h => h2 h.2.1)]
      clear h1 h2
      go_enter Tryz.func96, Tryz.ntmps96
      go_wp2_with (first
        | (rw [HW.out]; refine wpList_load_rcAd rfl (.tmp 5) rfl rfl HA.out.1 ?_)
        | (refine wpList_load_rcAd rfl (.tmp 7) rfl rfl HA.out.2.1 ?_))
      go_ret
      exact ⟨rfl, HA.out.2.2⟩
  · have hf : ((r.v6 == s.v6) && (r.adr == s.adr)) = false := by
      cases hv : (r.v6 == s.v6) && (r.adr == s.adr) with
      | false => rfl
      | true =>
        rw [Bool.and_eq_true, beq_iff_eq, beq_iff_eq] at hv
        exact absurd hv h1
    rw [hf] at heq
    rw [decide_eq_false (show ¬ ((r.v6 = s.v6 ∧ r.adr = s.adr) ∧ r.target = s.target ∧ r.data = s.data) from fun h => h1 h.1)]
    clear h1 hf
    go_enter Tryz.func96, Tryz.ntmps96
    go_wp2_with (first
      | (rw [HW.out]; refine wpList_load_rcAd rfl (.tmp 5) rfl rfl HA.out.1 ?_)
      | (refine wpList_load_rcAd rfl (.tmp 7) rfl rfl HA.out.2.1 ?_))
    go_ret
    exact ⟨rfl, HA.out.2.2⟩
end Go.Proofs.YtbikifaadpijnaaGreatDoor

namespace Go.Proofs.YtbikifaadpijnaaGreatDoor
open Go.RowKit
set_option maxRecDepth 100000

theorem wpList_wanted {P : Program} {ops : Array Oper} {rest : List Oper} {o : Oper} {a : Act} {w : World} {Q : Exit → Act → World → Prop} (hw : Region.wanted o (yielded ops a.tmps) = true) (h : o.wp P a w (wpList P ops Q rest) Q) : wpList P ops Q (o :: rest) a w := by
  unfold wpList
  rw [if_pos hw]
  exact .inl h
theorem run_build_rc1 (kind : Int) (w : World) : (Instr.build 57 #[(1, .int .i64 kind)]).run Tryz.prog w = .ok (.agg (rcv ⟨[], kind, 0, 0, false, zero16, [], []⟩ none 0 0)) w := by kernel_rfl
theorem wp_build_rc1 {o : Oper} {a : Act} {w : World} {K : Act → World → Prop} {Q : Exit → Act → World → Prop} (x0 : Operand) (ho : o.op = .build 57 #[(1, x0)]) (kind : Int) (h0 : a.eval x0 = .int .i64 kind)
    (h : K (a.put o.dst (.agg (rcv ⟨[], kind, 0, 0, false, zero16, [], []⟩ none 0 0))) w) : o.wp Tryz.prog a w K Q := by
  have hrun := run_build_rc1 kind w
  unfold Oper.wp execOp
  simp only [ho, Sem.run_bind, Sem.run_pure, Result.andThen_ok, List.map_toArray, List.map_cons, List.map_nil, h0, hrun]
  exact h
theorem wpList_build_rc1 {ops : Array Oper} {rest : List Oper} {o : Oper} {a : Act} {w : World} {Q : Exit → Act → World → Prop} (hgd : o.guard = none) (x0 : Operand) (ho : o.op = .build 57 #[(1, x0)]) (kind : Int) (h0 : a.eval x0 = .int .i64 kind)
    (h : wpList Tryz.prog ops Q rest (a.put o.dst (.agg (rcv ⟨[], kind, 0, 0, false, zero16, [], []⟩ none 0 0))) w) : wpList Tryz.prog ops Q (o :: rest) a w :=
  wpList_plain hgd fun _ hK => wp_build_rc1 x0 ho kind h0 (hK _ _ h)
theorem run_build_rc5 (name : List UInt8) (kind : Int) (cls : Int) (ttl : Int) (target : List UInt8) (w : World) : (Instr.build 57 #[(0, .string (mkS name)), (1, .int .i64 kind), (2, .int .i64 cls), (3, .int .u32 ttl), (5, .string (mkS target))]).run Tryz.prog w = .ok (.agg (rcv ⟨name, kind, cls, ttl, false, zero16, target, []⟩ none 0 0)) w := by kernel_rfl
theorem wp_build_rc5 {o : Oper} {a : Act} {w : World} {K : Act → World → Prop} {Q : Exit → Act → World → Prop} (x0 x1 x2 x3 x4 : Operand) (ho : o.op = .build 57 #[(0, x0), (1, x1), (2, x2), (3, x3), (5, x4)]) (name : List UInt8) (kind : Int) (cls : Int) (ttl : Int) (target : List UInt8) (h0 : a.eval x0 = .string (mkS name)) (h1 : a.eval x1 = .int .i64 kind) (h2 : a.eval x2 = .int .i64 cls) (h3 : a.eval x3 = .int .u32 ttl) (h4 : a.eval x4 = .string (mkS target))
    (h : K (a.put o.dst (.agg (rcv ⟨name, kind, cls, ttl, false, zero16, target, []⟩ none 0 0))) w) : o.wp Tryz.prog a w K Q := by
  have hrun := run_build_rc5 name kind cls ttl target w
  unfold Oper.wp execOp
  simp only [ho, Sem.run_bind, Sem.run_pure, Result.andThen_ok, List.map_toArray, List.map_cons, List.map_nil, h0, h1, h2, h3, h4, hrun]
  exact h
theorem wpList_build_rc5 {ops : Array Oper} {rest : List Oper} {o : Oper} {a : Act} {w : World} {Q : Exit → Act → World → Prop} (hgd : o.guard = none) (x0 x1 x2 x3 x4 : Operand) (ho : o.op = .build 57 #[(0, x0), (1, x1), (2, x2), (3, x3), (5, x4)]) (name : List UInt8) (kind : Int) (cls : Int) (ttl : Int) (target : List UInt8) (h0 : a.eval x0 = .string (mkS name)) (h1 : a.eval x1 = .int .i64 kind) (h2 : a.eval x2 = .int .i64 cls) (h3 : a.eval x3 = .int .u32 ttl) (h4 : a.eval x4 = .string (mkS target))
    (h : wpList Tryz.prog ops Q rest (a.put o.dst (.agg (rcv ⟨name, kind, cls, ttl, false, zero16, target, []⟩ none 0 0))) w) : wpList Tryz.prog ops Q (o :: rest) a w :=
  wpList_plain hgd fun _ hK => wp_build_rc5 x0 x1 x2 x3 x4 ho name kind cls ttl target h0 h1 h2 h3 h4 (hK _ _ h)
theorem run_build_rc6 (name : List UInt8) (kind : Int) (cls : Int) (ttl : Int) (A : Option Addr) (n : Nat) (c : Nat) (l : List UInt8) (w : World) : (Instr.build 57 #[(0, .string (mkS name)), (1, .int .i64 kind), (2, .int .i64 cls), (3, .int .u32 ttl), (6, .slice A n c)]).run Tryz.prog w = .ok (.agg (rcv ⟨name, kind, cls, ttl, false, zero16, [], l⟩ A n c)) w := by kernel_rfl
theorem wp_build_rc6 {o : Oper} {a : Act} {w : World} {K : Act → World → Prop} {Q : Exit → Act → World → Prop} (x0 x1 x2 x3 x4 : Operand) (ho : o.op = .build 57 #[(0, x0), (1, x1), (2, x2), (3, x3), (6, x4)]) (name : List UInt8) (kind : Int) (cls : Int) (ttl : Int) (A : Option Addr) (n : Nat) (c : Nat) (l : List UInt8) (h0 : a.eval x0 = .string (mkS name)) (h1 : a.eval x1 = .int .i64 kind) (h2 : a.eval x2 = .int .i64 cls) (h3 : a.eval x3 = .int .u32 ttl) (h4 : a.eval x4 = .slice A n c)
    (h : K (a.put o.dst (.agg (rcv ⟨name, kind, cls, ttl, false, zero16, [], l⟩ A n c))) w) : o.wp Tryz.prog a w K Q := by
  have hrun := run_build_rc6 name kind cls ttl A n c l w
  unfold Oper.wp execOp
  simp only [ho, Sem.run_bind, Sem.run_pure, Result.andThen_ok, List.map_toArray, List.map_cons, List.map_nil, h0, h1, h2, h3, h4, hrun]
  exact h
theorem wpList_build_rc6 {ops : Array Oper} {rest : List Oper} {o : Oper} {a : Act} {w : World} {Q : Exit → Act → World → Prop} (hgd : o.guard = none) (x0 x1 x2 x3 x4 : Operand) (ho : o.op = .build 57 #[(0, x0), (1, x1), (2, x2), (3, x3), (6, x4)]) (name : List UInt8) (kind : Int) (cls : Int) (ttl : Int) (A : Option Addr) (n : Nat) (c : Nat) (l : List UInt8) (h0 : a.eval x0 = .string (mkS name)) (h1 : a.eval x1 = .int .i64 kind) (h2 : a.eval x2 = .int .i64 cls) (h3 : a.eval x3 = .int .u32 ttl) (h4 : a.eval x4 = .slice A n c)
    (h : wpList Tryz.prog ops Q rest (a.put o.dst (.agg (rcv ⟨name, kind, cls, ttl, false, zero16, [], l⟩ A n c))) w) : wpList Tryz.prog ops Q (o :: rest) a w :=
  wpList_plain hgd fun _ hK => wp_build_rc6 x0 x1 x2 x3 x4 ho name kind cls ttl A n c l h0 h1 h2 h3 h4 (hK _ _ h)

/-! ### '==' of questions -/
theorem ba_self (s : ByteArray) : (s == s) = true := by
  first
    | exact beq_self_eq_true s
    | (show (s.data == s.data) = true; exact beq_self_eq_true _)
theorem part_qs (q : Qs) (w : World) : (part 9 (qsv q) 0).run Tryz.prog w = .ok (.string (mkS q.name)) w ∧ (part 3 (qsv q) 1).run Tryz.prog w = .ok (.int .i64 q.kind) w ∧ (part 3 (qsv q) 2).run Tryz.prog w = .ok (.int .i64 q.cls) w := by
  refine ⟨?_, ?_, ?_⟩ <;> kernel_rfl
theorem fields_qs : ∃ f0 f1 f2 : Field, (Tryz.prog.fieldsOf 51).toList = [f0, f1, f2] ∧ (f0.name ≠ "_" ∧ f1.name ≠ "_" ∧ f2.name ≠ "_") ∧ (f0.type = 9 ∧ f1.type = 3 ∧ f2.type = 3) ∧ (f0.offset = 0 ∧ f1.offset = 1 ∧ f2.offset = 2) := by
  refine ⟨(Tryz.prog.fieldsOf 51).toList.head!, (Tryz.prog.fieldsOf 51).toList.tail.head!, (Tryz.prog.fieldsOf 51).toList.tail.tail.head!, by kernel_rfl, ⟨?_, ?_, ?_⟩, ⟨by kernel_rfl, by kernel_rfl, by kernel_rfl⟩, ⟨by kernel_rfl, by kernel_rfl, by kernel_rfl⟩⟩
  all_goals exact of_decide_eq_true (by kernel_rfl)
set_option maxHeartbeats 1000000 in
theorem eqIn_qs (d : Nat) (q : Qs) (w : World) : (Op.equalIn (d + 4) 51 (.agg (qsv q)) (.agg (qsv q))).run Tryz.prog w = .ok true w := by
  rw [run_equalIn_struct w (d + 3) 51 _ _ (by kernel_rfl) (by kernel_rfl)]
  obtain ⟨f0, f1, f2, hf, ⟨n0, n1, n2⟩, ⟨t0, t1, t2⟩, ⟨o0, o1, o2⟩⟩ := fields_qs
  rw [hf]
  have e0 : ∀ s : ByteArray, (Op.equalIn (d + 3) 9 (.string s) (.string s)).run Tryz.prog w = .ok true w := fun s => by
    simp [Op.equalIn, run_underlying Tryz.underlying9, ba_self]
  have e2 : ∀ n : Int, (Op.equalIn (d + 3) 3 (.int .i64 n) (.int .i64 n)).run Tryz.prog w = .ok true w := fun n => by
    simp [Op.equalIn, run_underlying Tryz.underlying3]
  obtain ⟨p0, p1, p2⟩ := part_qs q w
  simp only [Op.eqFields, if_pos n0, if_pos n1, if_pos n2, t0, t1, t2, o0, o1, o2, Sem.run_bind, p0, p1, p2, e0, e2, Result.andThen_ok, Sem.run_ite, Sem.run_pure]
  rfl
theorem eql_qs (q : Qs) (w : World) : (binOp .eql 51 (.agg (qsv q)) (.agg (qsv q))).run Tryz.prog w = .ok (.bool true) w := by
  rw [run_eql_struct]
  have h1 := eqIn_qs 9996 q w
  rw [show (10000 : Nat) = 9996 + 4 from rfl] at *
  simp only [h1]
  rfl
set_option maxHeartbeats 4000000 in
/-- Two records that are one and the same. -/
theorem record_same {r : Rc} (hk : r.ok) {A B : Option Addr} {n c m d : Nat} {w : World} (hb : Bs w A n c r.data) (hb2 : Bs w B m d r.data) : Calls Tryz.prog 41 #[.agg (rcv r A n c), .agg (rcv r B m d)] w fun e w' => e = .returned (.bool true) ∧ Below w.heap.size w w' := by
  have a1 := RcBox.new w hk A n c
  have b1 : Below w.heap.size w (w.alloc (.cells (rcv r A n c) 57)) := (Below.refl _ _).alloc (Nat.le_refl _) _
  have a2 := RcBox.new (w.alloc (.cells (rcv r A n c) 57)) hk B m d
  rw [World.size_alloc] at a2
  have b2 : Below (w.heap.size + 1) (w.alloc (.cells (rcv r A n c) 57)) ((w.alloc (.cells (rcv r A n c) 57)).alloc (.cells (rcv r B m d) 57)) := (Below.refl _ _).alloc (by simp) _
  have hA := And.intro (a1.later b2 (by simp)) (And.intro a2 (b1.trans (b2.mono (by omega))))
  obtain ⟨W, hW⟩ : ∃ W, (w.alloc (.cells (rcv r A n c) 57)).alloc (.cells (rcv r B m d) 57) = W := ⟨_, rfl⟩
  rw [hW] at hA
  have ke := Lib.hid (bytes_same (hb.later hA.2.2 (Nat.le_refl _)) (hb2.later hA.2.2 (Nat.le_refl _)))
  have e0 := hA.1.name
  have e1 := hA.1.kind
  have e2 := hA.1.cls
  have e3 := hA.1.ttl
  have e4 := hA.1.target
  have e5 := hA.1.data
  have g0 := hA.2.1.name
  have g1 := hA.2.1.kind
  have g2 := hA.2.1.cls
  have g3 := hA.2.1.ttl
  have g4 := hA.2.1.target
  have g5 := hA.2.1.data
  have HA := Lib.hid hA
  have HW := Lib.hid hW
  have heq := eql_ad r.v6 r.v6 hk hk
  rw [beq_self_eq_true, beq_self_eq_true, Bool.and_true] at heq
  clear a1 a2 b1 b2 hA hW hb hb2
  go_enter Tryz.func41, Tryz.ntmps41
  go_wp2_with (first
    | (refine wpList_wanted (by rfl) (wp_load_rcAd (.tmp 32) rfl rfl HA.out.1 ?_))
    | (refine wpList_wanted (by rfl) (wp_load_rcAd (.tmp 34) rfl rfl HA.out.2.1 ?_))
    | (rw [HW.out]))
  refine ke.out.mono ?_
  rintro e w' ⟨rfl, rfl⟩
  go_wp2_with fail
  go_ret
  exact ⟨rfl, HA.out.2.2⟩
theorem port_any (v : Int) (w : World) : Calls Tryz.prog 45 #[.int .i64 v] w fun e w' => e = .returned (.int .i64 (wrap64 ((IntKind.u64.wrap v).tmod 65536))) ∧ w = w' := by
  go_enter Tryz.func45, Tryz.ntmps45
  go_wp2
  go_ret
  exact ⟨rfl, rfl⟩
end Go.Proofs.YtbikifaadpijnaaGreatDoor
