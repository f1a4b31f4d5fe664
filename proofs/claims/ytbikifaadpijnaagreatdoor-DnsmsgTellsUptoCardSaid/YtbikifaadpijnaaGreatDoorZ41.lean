/-
  Package record: numbers that fit, questions, what a record answers, how wide an address is; bytes.Equal. Conditions: names of up to a million bytes; what the program's text has laid.
  Package record's ReadQuestion, nameAt, dataAt: whatever bytes there are. Conditions: those of the slice; 2^47 bytes at most; errors.errorType holds the handle of the type error.
  Package record's dataAt, with: what a record bears. Conditions: those of the slices; 2^47 bytes at most; errors.errorType holds the handle of the type error.
  Package record's ReadRecord: whatever bytes there are. Conditions: those of the slice; 2^47 bytes at most; errors.errorType holds the handle of the type error.
  Package record's ReadRecord: its bytes lie in memory of its own. Conditions: those of the slice; 2^47 bytes at most; errors.errorType holds the handle of the type error.
  Package dnsmsg's heads: their numbers read, and added; whether they may be; as they are written. Conditions: those of the slices.
-/
import Derived.Test.YtbikifaadpijnaaGreatDoorZ33
import Derived.Test.YtbikifaadpijnaaGreatDoorZ35
import Derived.Test.YtbikifaadpijnaaGreatDoorZ39
import Derived.Test.YtbikifaadpijnaaGreatDoorZ17
import Derived.Test.YtbikifaadpijnaaGreatDoorZ23
import Derived.Laws.CopyRow
import Derived.Test.YtbikifaadpijnaaGreatDoorZ32
import Derived.Test.YtbikifaadpijnaaGreatDoorZ16
import Derived.Test.YtbikifaadpijnaaGreatDoorZ19
import Derived.IntWalk
namespace Go.Proofs.YtbikifaadpijnaaGreatDoor
open Go.RowKit
set_option maxRecDepth 100000

theorem mkS_eq (a z : List UInt8) : ((mkS a).toList == (mkS z).toList) = decide (a = z) := by
  rw [Lib.toList_data, Lib.toList_data, mkS_data, mkS_data]
  rw [Bool.eq_iff_iff, beq_iff_eq, decide_eq_true_iff]
theorem short_any (v : Int) (w : World) : Calls Tryz.prog 93 #[.int .i64 v] w fun e w' => e = .returned (.bool (decide (shortI v))) ∧ w = w' := by
  unfold shortI
  by_cases h0 : 0 ≤ v
  · by_cases h1 : v ≤ 65535
    · rw [decide_eq_true (⟨h0, h1⟩ : 0 ≤ v ∧ v ≤ 65535)]
      go_enter Tryz.func93, Tryz.ntmps93
      go_wp2
      go_ret
      exact ⟨rfl, rfl⟩
    · rw [decide_eq_false (show ¬ (0 ≤ v ∧ v ≤ 65535) from fun h => h1 h.2)]
      go_enter Tryz.func93, Tryz.ntmps93
      go_wp2
      go_ret
      exact ⟨rfl, rfl⟩
  · rw [decide_eq_false (show ¬ (0 ≤ v ∧ v ≤ 65535) from fun h => h0 h.1)]
    go_enter Tryz.func93, Tryz.ntmps93
    go_wp2
    go_ret
    exact ⟨rfl, rfl⟩
/-- How many bytes an address has. -/
theorem widthR_any (v6 : Bool) (bs : List UInt8) (hl : bs.length = 16) (w : World) : Calls Tryz.prog 98 #[.agg (adv v6 bs)] w fun e w' => e = .returned (.int .i64 (widB v6 : Nat)) ∧ Below w.heap.size w w' := by
  have a1 := AdBox.new w v6 hl
  have b1 : Below w.heap.size w (w.alloc (.cells (adv v6 bs) 55)) := (Below.refl _ _).alloc (Nat.le_refl _) _
  have c1 := a1.v6_cell
  have H1 := Lib.hid b1
  generalize hW : w.alloc (.cells (adv v6 bs) 55) = W at c1 H1
  clear a1 b1
  cases v6
  · go_enter Tryz.func98, Tryz.ntmps98
    go_wp2
    go_ret
    exact ⟨rfl, H1.out⟩
  · go_enter Tryz.func98, Tryz.ntmps98
    go_wp2
    go_ret
    exact ⟨rfl, H1.out⟩
theorem equal_any {A B : Option Addr} {n c m d : Nat} {l k : List UInt8} {w : World} (ha : Bs w A n c l) (hb : Bs w B m d k) : Calls Tryz.prog 118 #[.slice A n c, .slice B m d] w fun e w' => e = .returned (.bool (decide (l = k))) ∧ w = w' := by
  have y1 := ha.convert (P := Tryz.prog) 22 5 9 Tryz.underlying22 Tryz.underlying5 Tryz.underlying9
  have y2 := hb.convert (P := Tryz.prog) 22 5 9 Tryz.underlying22 Tryz.underlying5 Tryz.underlying9
  clear ha hb
  rw [show decide (l = k) = (l == k) by rw [Bool.eq_iff_iff, beq_iff_eq, decide_eq_true_iff]]
  go_enter Tryz.func118, Tryz.ntmps118
  go_wp2
  go_ret
  exact ⟨rfl, rfl⟩
set_option maxHeartbeats 1000000 in
/-- Is each part of a question as it may be? -/
theorem rightQ_any (q : Qs) (hs : q.name.length ≤ 1000000) {w : World} (hE : Env w) : Calls Tryz.prog 58 #[.agg (qsv q)] w fun e w' => e = .returned (.bool (decide (rightQ q))) ∧ Below w.heap.size w w' := by
  have a1 := QsBox.new w q
  have b1 : Below w.heap.size w (w.alloc (.cells (qsv q) 51)) := (Below.refl _ _).alloc (Nat.le_refl _) _
  obtain ⟨W, hW⟩ : ∃ W, w.alloc (.cells (qsv q) 51) = W := ⟨_, rfl⟩
  rw [hW] at a1 b1
  have KR := fun w1 (hb : Below w.heap.size w w1) => right_any (mkS q.name) (by rw [mkS_size]; exact hs) (hE.later hb (Nat.le_refl _))
  rw [mkS_data] at KR
  obtain ⟨name, kind, cls⟩ := q
  have d0 := a1.cell 0
  have d1 : ∀ w', Below W.heap.size W w' → w'.cell? ⟨w.heap.size, 1, none⟩ = some (.int .i64 kind) := fun w' h => (a1.later h (Nat.le_refl _)).cell 1
  have d2 : ∀ w', Below W.heap.size W w' → w'.cell? ⟨w.heap.size, 2, none⟩ = some (.int .i64 cls) := fun w' h => (a1.later h (Nat.le_refl _)).cell 2
  unfold rightQ
  dsimp only at KR ⊢
  dsimp only [qsv] at d0 hW ⊢
  simp only [List.getElem?_toArray, List.getElem?_cons_zero] at d0
  have HK := Lib.hid (And.intro KR (And.intro b1 (And.intro d1 d2)))
  have HW := Lib.hid hW
  clear KR a1 b1 d1 d2 hW hE
  by_cases h0 : rightN name
  · by_cases h1 : shortI kind
    · by_cases h2 : shortI cls
      · rw [decide_eq_true (⟨h0, h1, h2⟩ : rightN name ∧ shortI kind ∧ shortI cls)]
        rw [decide_eq_true h0] at HK
        go_enter Tryz.func58, Tryz.ntmps58
        go_wp2_with (rw [HW.out])
        refine (HK.out.1 W HK.out.2.1).mono ?_
        rintro e w1 ⟨rfl, b2⟩
        have e1 := HK.out.2.2.1 w1 b2
        have e2 := HK.out.2.2.2 w1 b2
        have HB := Lib.hid (HK.out.2.1.trans (b2.mono HK.out.2.1.size))
        clear b2
        have k1 := short_any kind w1
        have k2 := short_any cls w1
        rw [decide_eq_true h1] at k1
        rw [decide_eq_true h2] at k2
        have K2 := Lib.hid k2
        clear k2
        go_wp2_with fail
        refine k1.mono ?_
        rintro e w' ⟨rfl, rfl⟩
        go_wp2_with fail
        refine K2.out.mono ?_
        rintro e w' ⟨rfl, rfl⟩
        go_wp2_with fail
        go_ret
        exact ⟨rfl, HB.out⟩
      · rw [decide_eq_false (show ¬ (rightN name ∧ shortI kind ∧ shortI cls) from fun h => h2 h.2.2)]
        rw [decide_eq_true h0] at HK
        go_enter Tryz.func58, Tryz.ntmps58
        go_wp2_with (rw [HW.out])
        refine (HK.out.1 W HK.out.2.1).mono ?_
        rintro e w1 ⟨rfl, b2⟩
        have e1 := HK.out.2.2.1 w1 b2
        have e2 := HK.out.2.2.2 w1 b2
        have HB := Lib.hid (HK.out.2.1.trans (b2.mono HK.out.2.1.size))
        clear b2
        have k1 := short_any kind w1
        have k2 := short_any cls w1
        rw [decide_eq_true h1] at k1
        rw [decide_eq_false h2] at k2
        have K2 := Lib.hid k2
        clear k2
        go_wp2_with fail
        refine k1.mono ?_
        rintro e w' ⟨rfl, rfl⟩
        go_wp2_with fail
        refine K2.out.mono ?_
        rintro e w' ⟨rfl, rfl⟩
        go_wp2_with fail
        go_ret
        exact ⟨rfl, HB.out⟩
    · rw [decide_eq_false (show ¬ (rightN name ∧ shortI kind ∧ shortI cls) from fun h => h1 h.2.1)]
      rw [decide_eq_true h0] at HK
      go_enter Tryz.func58, Tryz.ntmps58
      go_wp2_with (rw [HW.out])
      refine (HK.out.1 W HK.out.2.1).mono ?_
      rintro e w1 ⟨rfl, b2⟩
      have e1 := HK.out.2.2.1 w1 b2
      have HB := Lib.hid (HK.out.2.1.trans (b2.mono HK.out.2.1.size))
      clear b2
      have k1 := short_any kind w1
      rw [decide_eq_false h1] at k1
      go_wp2_with fail
      refine k1.mono ?_
      rintro e w' ⟨rfl, rfl⟩
      go_wp2_with fail
      go_ret
      exact ⟨rfl, HB.out⟩
  · rw [decide_eq_false (show ¬ (rightN name ∧ shortI kind ∧ shortI cls) from fun h => h0 h.1)]
    rw [decide_eq_false h0] at HK
    go_enter Tryz.func58, Tryz.ntmps58
    go_wp2_with (rw [HW.out])
    refine (HK.out.1 W HK.out.2.1).mono ?_
    rintro e w1 ⟨rfl, b2⟩
    have HB := Lib.hid (HK.out.2.1.trans (b2.mono HK.out.2.1.size))
    clear b2
    go_wp2_with fail
    go_ret
    exact ⟨rfl, HB.out⟩
theorem rc_asks (r : Rc) : qsv r.asks = #[.string (mkS r.name), .int .i64 r.kind, .int .i64 r.cls] := rfl
/-- The question that a record answers. -/
theorem asked_any {r : Rc} (hk : r.ok) (A : Option Addr) (n c : Nat) (w : World) : Calls Tryz.prog 63 #[.agg (rcv r A n c)] w fun e w' => e = .returned (.agg (qsv r.asks)) ∧ Below w.heap.size w w' := by
  have a1 := RcBox.new w hk A n c
  have b1 : Below w.heap.size w (w.alloc (.cells (rcv r A n c) 57)) := (Below.refl _ _).alloc (Nat.le_refl _) _
  obtain ⟨W, hW⟩ : ∃ W, w.alloc (.cells (rcv r A n c) 57) = W := ⟨_, rfl⟩
  rw [hW] at a1 b1
  have HA := Lib.hid (And.intro a1 b1)
  have HW := Lib.hid hW
  clear a1 b1 hW
  go_enter Tryz.func63, Tryz.ntmps63
  go_wp2_with (first
    | (refine wpList_store_qs rfl (.tmp 2) (.tmp 9) rfl r.asks rfl rfl H1.out.1 ?_; intro w2 q2 o2 z2 g2; have H2 := Lib.hid (And.intro q2 (g2 w.heap.size w HA.out.2.size H1.out.2)); clear q2 o2 z2 g2)
    | (refine wpList_build_qs rfl (.tmp 4) (.tmp 6) (.tmp 8) rfl r.asks rfl rfl rfl ?_)
    | (rw [HW.out]; refine wpList_alloc_qs rfl rfl ?_; intro w1 q1 g1 z1; have H1 := Lib.hid (And.intro q1 (HA.out.2.trans (g1.mono HA.out.2.size))); have R1 := HA.out.1.later g1 (Nat.le_refl _); have e0 := R1.name; have e1 := R1.kind; have e2 := R1.cls; clear q1 g1 z1 R1))
  exact bodyPost_ret (results_cell_row rfl _ _ W.heap.size 51 _ (0, 0) _ rfl H2.out.1 Tryz.underlying51 rfl (qs_size _)) rfl ⟨rfl, H2.out.2⟩
end Go.Proofs.YtbikifaadpijnaaGreatDoor

namespace Go.Proofs.YtbikifaadpijnaaGreatDoor
open Go.RowKit
set_option maxRecDepth 100000

theorem numAt_two {l : List UInt8} {n k : Nat} (h : k + 2 ≤ n) : numAt l n k 2 = num2 l k := by
  unfold numAt num2
  have e := need_there (n := n) (i := k) (k := 2) h
  rw [show ((2 : Nat) : Int) = 2 from rfl] at e ⊢
  rw [e, if_pos rfl, Int.toNat_natCast]
theorem numAt_four {l : List UInt8} {n k : Nat} (h : k + 4 ≤ n) : numAt l n k 4 = num4 l k := by
  unfold numAt num4
  have e := need_there (n := n) (i := k) (k := 4) h
  rw [show ((4 : Nat) : Int) = 4 from rfl] at e ⊢
  rw [e, if_pos rfl, Int.toNat_natCast]
/-- U16 where two bytes are there, and where they are not. -/
theorem u16_there {A : Option Addr} {n c k : Nat} {l : List UInt8} {w : World} (hb : Bs w A n c l) (h47 : n ≤ 140737488350000) (h : k + 2 ≤ n) : Calls Tryz.prog 48 #[.slice A n c, .int .i64 k] w fun e w' => e = .returned (.tuple #[.int .i64 (num2 l k : Nat), .nilIface]) ∧ Below w.heap.size w w' := by
  refine (u16_any hb k (by omega)).mono ?_
  rintro e w' ⟨v, rfl, t, b⟩
  have e2 := need_there (n := n) (i := k) (k := 2) h
  rw [show ((2 : Nat) : Int) = 2 from rfl] at e2
  rw [e2] at t
  obtain rfl := t.none' rfl
  rw [numAt_two h]
  exact ⟨rfl, b⟩
theorem u16_not {A : Option Addr} {n c k : Nat} {l : List UInt8} {w : World} (hb : Bs w A n c l) (hk : k ≤ 140737488390000) (h : n < k + 2) : Calls Tryz.prog 48 #[.slice A n c, .int .i64 k] w fun e w' => ∃ z T x, e = .returned (.tuple #[.int .i64 z, .iface T x]) ∧ Tells w' (.iface T x) ⟨3, k, true⟩ ∧ Below w.heap.size w w' := by
  refine (u16_any hb k (by omega)).mono ?_
  rintro e w' ⟨v, rfl, t, b⟩
  have e2 := need_short (n := n) (i := k) (k := 2) h (by omega)
  rw [show ((2 : Nat) : Int) = 2 from rfl] at e2
  rw [e2] at t
  obtain ⟨T, x, rfl⟩ := t.held' (show (3 : Int) ≠ 0 by decide)
  exact ⟨_, T, x, rfl, t, b⟩
theorem u32_there {A : Option Addr} {n c k : Nat} {l : List UInt8} {w : World} (hb : Bs w A n c l) (h47 : n ≤ 140737488350000) (h : k + 4 ≤ n) : Calls Tryz.prog 84 #[.slice A n c, .int .i64 k] w fun e w' => e = .returned (.tuple #[.int .u32 (num4 l k : Nat), .nilIface]) ∧ Below w.heap.size w w' := by
  refine (u32_any hb k (by omega)).mono ?_
  rintro e w' ⟨v, rfl, t, b⟩
  have e2 := need_there (n := n) (i := k) (k := 4) h
  rw [show ((4 : Nat) : Int) = 4 from rfl] at e2
  rw [e2] at t
  obtain rfl := t.none' rfl
  rw [numAt_four h]
  exact ⟨rfl, b⟩
theorem u32_not {A : Option Addr} {n c k : Nat} {l : List UInt8} {w : World} (hb : Bs w A n c l) (hk : k ≤ 140737488390000) (h : n < k + 4) : Calls Tryz.prog 84 #[.slice A n c, .int .i64 k] w fun e w' => ∃ z T x, e = .returned (.tuple #[.int .u32 z, .iface T x]) ∧ Tells w' (.iface T x) ⟨3, k, true⟩ ∧ Below w.heap.size w w' := by
  refine (u32_any hb k (by omega)).mono ?_
  rintro e w' ⟨v, rfl, t, b⟩
  have e2 := need_short (n := n) (i := k) (k := 4) h (by omega)
  rw [show ((4 : Nat) : Int) = 4 from rfl] at e2
  rw [e2] at t
  obtain ⟨T, x, rfl⟩ := t.held' (show (3 : Int) ≠ 0 by decide)
  exact ⟨_, T, x, rfl, t, b⟩
/-- What Read answers, by whether there is a name. -/
theorem read_ways {A : Option Addr} {n c : Nat} {l : List UInt8} (h47 : n ≤ 140737488350000) (at_ : Int) (ha : at_ ≤ 9223372036854775807) :
    ((readv l n at_).f.code = 0 ∧ (readv l n at_).next ≤ n ∧ ∀ w, Bs w A n c l → Calls Tryz.prog 83 #[.slice A n c, .int .i64 at_] w fun e w' => e = .returned (.tuple #[.string (mkS (readv l n at_).name), .int .i64 (readv l n at_).next, .nilIface]) ∧ Below w.heap.size w w') ∨
    ((readv l n at_).f.code ≠ 0 ∧ ∀ w, Bs w A n c l → Calls Tryz.prog 83 #[.slice A n c, .int .i64 at_] w fun e w' => ∃ s z T x, e = .returned (.tuple #[.string s, .int .i64 z, .iface T x]) ∧ Tells w' (.iface T x) (readv l n at_).f ∧ Below w.heap.size w w') := by
  by_cases h : (readv l n at_).f.code = 0
  · refine .inl ⟨h, (readv_next h).1, fun w hb => (Read_any hb h47 at_ ha).mono ?_⟩
    rintro e w' ⟨v, rfl, t, b⟩
    obtain rfl := t.none' h
    exact ⟨rfl, b⟩
  · refine .inr ⟨h, fun w hb => (Read_any hb h47 at_ ha).mono ?_⟩
    rintro e w' ⟨v, rfl, t, b⟩
    obtain ⟨T, x, rfl⟩ := t.held' h
    exact ⟨_, _, T, x, rfl, t, b⟩
/-- What ReadQuestion hands back. -/
def ReadQR (r : Rq) (w : World) (e : Ending) (w' : World) : Prop := ∃ v, e = .returned (.tuple #[.agg (qsv r.q), .int .i64 r.next, v]) ∧ Tells w' v r.f ∧ Below w.heap.size w w'
set_option maxHeartbeats 2000000 in
theorem readQ_any {A : Option Addr} {n c : Nat} {l : List UInt8} {w : World} (hb : Bs w A n c l) (h47 : n ≤ 140737488350000) (at_ : Int) (ha : at_ ≤ 9223372036854775807) : Calls Tryz.prog 51 #[.slice A n c, .int .i64 at_] w (ReadQR (readQv l n at_) w) := by
  unfold readQv readQd ReadQR
  have HB := Lib.hid hb
  clear hb
  rcases read_ways (A := A) (c := c) (l := l) h47 at_ ha with ⟨h1, h2, h3⟩ | ⟨h1, h3⟩
  · rw [if_neg (by omega)]
    generalize readv l n at_ = d at h1 h2 h3 ⊢
    obtain ⟨name, next, f⟩ := d
    dsimp only at h1 h2 h3 ⊢
    have K := Lib.hid h3
    clear h3 h1
    by_cases q2 : n < next + 2
    · rw [if_pos q2]
      go_enter Tryz.func51, Tryz.ntmps51
      go_wp2_with (refine wpList_alloc_qs rfl rfl ?_; intro w1 a1 b1 z1; have H1 := Lib.hid (And.intro a1 b1); clear a1 b1 z1)
      refine (K.out w1 (HB.out.later H1.out.2 (Nat.le_refl _))).mono ?_
      rintro e w2 ⟨rfl, b2⟩
      have H2 := Lib.hid (And.intro (H1.out.1.later b2 (Nat.le_refl _)) (H1.out.2.trans (b2.mono H1.out.2.size)))
      clear b2
      go_wp2_with fail
      refine (u16_not (HB.out.later H2.out.2 (Nat.le_refl _)) (by omega) q2).mono ?_
      rintro e w3 ⟨z3, T, x, rfl, t3, b3⟩
      have H3 := Lib.hid (And.intro (H2.out.1.later b3 (Nat.le_refl _)) (And.intro t3 (H2.out.2.trans (b3.mono H2.out.2.size))))
      clear t3 b3
      go_wp2_with (refine wpList_store_qs rfl (.tmp 4) (.tmp 30) rfl .zero rfl rfl H3.out.1 ?_; intro w4 a4 o4 z4 b4; have H4 := Lib.hid (And.intro a4 (And.intro (H3.out.2.1.farQs H3.out.1 o4) (b4 w.heap.size w (Nat.le_refl _) H3.out.2.2))); clear a4 o4 z4 b4)
      exact bodyPost_ret (results_qs3 _ rfl rfl H4.out.1) rfl ⟨.iface T x, rfl, H4.out.2⟩
    · rw [if_neg q2]
      by_cases q4 : n < next + 4
      · rw [if_pos q4]
        go_enter Tryz.func51, Tryz.ntmps51
        go_wp2_with (refine wpList_alloc_qs rfl rfl ?_; intro w1 a1 b1 z1; have H1 := Lib.hid (And.intro a1 b1); clear a1 b1 z1)
        refine (K.out w1 (HB.out.later H1.out.2 (Nat.le_refl _))).mono ?_
        rintro e w2 ⟨rfl, b2⟩
        have H2 := Lib.hid (And.intro (H1.out.1.later b2 (Nat.le_refl _)) (H1.out.2.trans (b2.mono H1.out.2.size)))
        clear b2
        go_wp2_with fail
        refine (u16_there (HB.out.later H2.out.2 (Nat.le_refl _)) h47 (by omega)).mono ?_
        rintro e w3 ⟨rfl, b3⟩
        have H3 := Lib.hid (And.intro (H2.out.1.later b3 (Nat.le_refl _)) (H2.out.2.trans (b3.mono H2.out.2.size)))
        clear b3
        go_wp2_with fail
        rw [show (next : Int) + 2 = ((next + 2 : Nat) : Int) by omega]
        refine (u16_not (HB.out.later H3.out.2 (Nat.le_refl _)) (by omega) (by omega)).mono ?_
        rintro e w5 ⟨z5, T, x, rfl, t5, b5⟩
        have H5 := Lib.hid (And.intro (H3.out.1.later b5 (Nat.le_refl _)) (And.intro t5 (H3.out.2.trans (b5.mono H3.out.2.size))))
        clear t5 b5
        go_wp2_with (refine wpList_store_qs rfl (.tmp 4) (.tmp 41) rfl .zero rfl rfl H5.out.1 ?_; intro w4 a4 o4 z4 b4; have H4 := Lib.hid (And.intro a4 (And.intro (H5.out.2.1.farQs H5.out.1 o4) (b4 w.heap.size w (Nat.le_refl _) H5.out.2.2))); clear a4 o4 z4 b4)
        exact bodyPost_ret (results_qs3 _ rfl rfl H4.out.1) rfl ⟨.iface T x, rfl, H4.out.2⟩
      · rw [if_neg q4]
        go_enter Tryz.func51, Tryz.ntmps51
        go_wp2_with (refine wpList_alloc_qs rfl rfl ?_; intro w1 a1 b1 z1; have H1 := Lib.hid (And.intro a1 b1); clear a1 b1 z1)
        refine (K.out w1 (HB.out.later H1.out.2 (Nat.le_refl _))).mono ?_
        rintro e w2 ⟨rfl, b2⟩
        have H2 := Lib.hid (And.intro (H1.out.1.later b2 (Nat.le_refl _)) (H1.out.2.trans (b2.mono H1.out.2.size)))
        clear b2
        go_wp2_with fail
        refine (u16_there (HB.out.later H2.out.2 (Nat.le_refl _)) h47 (by omega)).mono ?_
        rintro e w3 ⟨rfl, b3⟩
        have H3 := Lib.hid (And.intro (H2.out.1.later b3 (Nat.le_refl _)) (H2.out.2.trans (b3.mono H2.out.2.size)))
        clear b3
        go_wp2_with fail
        rw [show (next : Int) + 2 = ((next + 2 : Nat) : Int) by omega]
        refine (u16_there (HB.out.later H3.out.2 (Nat.le_refl _)) h47 (by omega)).mono ?_
        rintro e w5 ⟨rfl, b5⟩
        have H5 := Lib.hid (And.intro (H3.out.1.later b5 (Nat.le_refl _)) (H3.out.2.trans (b5.mono H3.out.2.size)))
        clear b5
        go_wp2_with (first
          | (refine wpList_build_qs rfl (.tmp 43) (.tmp 44) (.tmp 45) rfl ⟨name, (num2 l next : Nat), (num2 l (next + 2) : Nat)⟩ rfl rfl rfl ?_)
          | (refine wpList_store_qs rfl (.tmp 4) (.tmp 46) rfl ⟨name, (num2 l next : Nat), (num2 l (next + 2) : Nat)⟩ rfl rfl H5.out.1 ?_; intro w4 a4 o4 z4 b4; have H4 := Lib.hid (And.intro a4 (b4 w.heap.size w (Nat.le_refl _) H5.out.2)); clear a4 o4 z4 b4))
        rw [show (next : Int) + 4 = ((next + 4 : Nat) : Int) by omega]
        exact bodyPost_ret (results_qs3 _ rfl rfl H4.out.1) rfl ⟨.nilIface, rfl, Tells.nil _ _ _, H4.out.2⟩
  · rw [if_pos h1]
    generalize readv l n at_ = d at h1 h3 ⊢
    obtain ⟨name, next, f⟩ := d
    dsimp only at h1 h3 ⊢
    have K := Lib.hid h3
    clear h3
    go_enter Tryz.func51, Tryz.ntmps51
    go_wp2_with (refine wpList_alloc_qs rfl rfl ?_; intro w1 a1 b1 z1; have H1 := Lib.hid (And.intro a1 b1); clear a1 b1 z1)
    refine (K.out w1 (HB.out.later H1.out.2 (Nat.le_refl _))).mono ?_
    rintro e w2 ⟨s2, z2, T, x, rfl, t2, b2⟩
    have H2 := Lib.hid (And.intro (H1.out.1.later b2 (Nat.le_refl _)) (And.intro t2 (H1.out.2.trans (b2.mono H1.out.2.size))))
    clear t2 b2
    go_wp2_with (refine wpList_store_qs rfl (.tmp 4) (.tmp 20) rfl .zero rfl rfl H2.out.1 ?_; intro w4 a4 o4 z4 b4; have H4 := Lib.hid (And.intro a4 (And.intro (H2.out.2.1.farQs H2.out.1 o4) (b4 w.heap.size w (Nat.le_refl _) H2.out.2.2))); clear a4 o4 z4 b4)
    exact bodyPost_ret (results_qs3 _ rfl rfl H4.out.1) rfl ⟨.iface T x, rfl, H4.out.2⟩
set_option maxHeartbeats 2000000 in
/-- The name that ends where it should. -/
theorem nameAt_any {A : Option Addr} {n c : Nat} {l : List UInt8} {w : World} (hb : Bs w A n c l) (h47 : n ≤ 140737488350000) (at_ k : Nat) (ha : at_ ≤ 140737488350000) (hk : k ≤ 140737488350000) : Calls Tryz.prog 112 #[.slice A n c, .int .i64 at_, .int .i64 k] w fun e w' =>
    ∃ v, e = .returned (.tuple #[.string (mkS (nameV (readv l n ((at_ : Int) + 2)) at_ k).1), v]) ∧ Tells w' v (nameV (readv l n ((at_ : Int) + 2)) at_ k).2 ∧ Below w.heap.size w w' := by
  unfold nameV
  have HB := Lib.hid hb
  clear hb
  rcases read_ways (A := A) (c := c) (l := l) h47 ((at_ : Int) + 2) (by omega) with ⟨h1, h2, h3⟩ | ⟨h1, h3⟩
  · rw [if_neg (by omega)]
    generalize readv l n ((at_ : Int) + 2) = d at h1 h2 h3 ⊢
    obtain ⟨name, next, f⟩ := d
    dsimp only at h1 h2 h3 ⊢
    have K := Lib.hid h3
    clear h3 h1
    by_cases q2 : next = at_ + 2 + k
    · have q3 : (next : Int) = (at_ : Int) + 2 + (k : Int) := by omega
      rw [if_neg (by omega)]
      clear q2
      go_enter Tryz.func112, Tryz.ntmps112
      go_wp2_with fail
      refine (K.out w HB.out).mono ?_
      rintro e w2 ⟨rfl, b2⟩
      have H2 := Lib.hid b2
      clear b2
      go_wp2_with fail
      go_ret2
      exact ⟨.nilIface, rfl, Tells.nil _ _ _, H2.out⟩
    · have q3 : ¬ (next : Int) = (at_ : Int) + 2 + (k : Int) := by omega
      rw [if_pos q2]
      clear q2
      go_enter Tryz.func112, Tryz.ntmps112
      go_wp2_with fail
      refine (K.out w HB.out).mono ?_
      rintro e w2 ⟨rfl, b2⟩
      have H2 := Lib.hid b2
      clear b2
      go_wp2_with fail
      refine (wrap_told (a := 0) at_ (Tells.bare w2 7 (by decide) 0) (by decide)).mono ?_
      rintro e w3 ⟨v, rfl, t3, b3⟩
      have H3 := Lib.hid (And.intro t3 (H2.out.trans (b3.mono H2.out.size)))
      clear t3 b3
      go_wp2_with fail
      go_ret2
      exact ⟨v, rfl, H3.out⟩
  · rw [if_pos h1]
    generalize readv l n ((at_ : Int) + 2) = d at h1 h3 ⊢
    obtain ⟨name, next, f⟩ := d
    dsimp only at h1 h3 ⊢
    have K := Lib.hid h3
    clear h3
    go_enter Tryz.func112, Tryz.ntmps112
    go_wp2_with fail
    refine (K.out w HB.out).mono ?_
    rintro e w2 ⟨s2, z2, T, x, rfl, t2, b2⟩
    have H2 := Lib.hid (And.intro t2 b2)
    clear t2 b2
    go_wp2_with fail
    go_ret2
    exact ⟨.iface T x, rfl, H2.out⟩
end Go.Proofs.YtbikifaadpijnaaGreatDoor

namespace Go.Proofs.YtbikifaadpijnaaGreatDoor
open Go.RowKit
set_option maxRecDepth 100000

/-- Where a slice's bytes are: in a block of the call's own. -/
def Ow (base : Nat) (A : Option Addr) : Prop := ∀ a, A = some a → base ≤ a.block
theorem own_ow {w : World} {base : Nat} {e : TypeId} {A : Option Addr} {n c : Nat} {xs : List Value} (h : w.ownsRow base e 1 (.slice A n c) n xs) : Ow base A := by
  intro a ha
  subst ha
  rcases h.2 with ⟨h, _⟩ | ⟨g, cap, cur, e1, hb, _⟩
  · cases h
  · injection e1 with e1
    injection e1 with e1
    subst e1
    exact hb
theorem Bs.farBlk {w w' : World} {g : Nat} {A : Option Addr} {n c : Nat} {l : List UInt8} (h : Bs w A n c l) (hA : ∀ a, A = some a → a.block ≠ g) (hh : ∀ k, k ≠ g → w'.heap[k]? = w.heap[k]?) : Bs w' A n c l := by
  refine ⟨h.len, h.cap, h.max, h.none_, fun h0 => ?_⟩
  obtain ⟨b, off, rfl, hc⟩ := h.here h0
  exact ⟨b, off, rfl, fun i x hx => (World.cell?_of_block (hh b (hA _ rfl))).trans (hc i x hx)⟩
set_option maxHeartbeats 1000000 in
/-- The bytes whose length stands at a place, where they are there. -/
theorem dataAt_ok {A : Option Addr} {n c : Nat} {l : List UInt8} {w : World} (hb : Bs w A n c l) (h47 : n ≤ 140737488350000) (at_ k : Nat) (hk : num2 l at_ = k) (h : at_ + 2 + k ≤ n) : Calls Tryz.prog 85 #[.slice A n c, .int .i64 at_] w fun e w' =>
    ∃ A' c', e = .returned (.tuple #[.slice A' k c', .nilIface]) ∧ Bs w' A' k c' ((l.drop (at_ + 2)).take k) ∧ Ow w.heap.size A' ∧ Below w.heap.size w w' := by
  have hnd : needOf n ((at_ : Int) + 2) (k : Int) = ⟨0, 0, false⟩ := by
    rw [show (at_ : Int) + 2 = ((at_ + 2 : Nat) : Int) by omega]
    exact need_there h
  have kp := fun w1 (b : Below w.heap.size w w1) => part_of_cut (cut_there (hb.later b (Nat.le_refl _)) ((at_ : Int) + 2) (k : Int) (by omega) (by rw [hnd])) (by rw [Int.toNat_natCast]; omega)
  rw [show ((at_ : Int) + 2).toNat = at_ + 2 by omega, Int.toNat_natCast] at kp
  have KP := Lib.hid kp
  clear kp
  generalize (l.drop (at_ + 2)).take k = x at KP ⊢
  have K1 := Lib.hid (u16_there hb h47 (k := at_) (by omega))
  rw [hk] at K1
  clear hb hnd hk
  go_enter Tryz.func85, Tryz.ntmps85
  go_wp2_with fail
  refine K1.out.mono ?_
  rintro e w1 ⟨rfl, b1⟩
  have H1 := Lib.hid b1
  clear b1
  go_wp2_with fail
  refine (KP.out w1 H1.out).mono ?_
  rintro e w2 ⟨v2, rfl, o2, b2⟩
  obtain ⟨A2, c2, rfl, hB2⟩ := Bs.of_own o2
  have H2 := Lib.hid (And.intro hB2 (And.intro (own_ow (owns_base o2 H1.out.size)) (H1.out.trans (b2.mono H1.out.size))))
  clear o2 b2 hB2
  go_wp2_with fail
  refine (deeper_nil _ w2).mono ?_
  rintro e w' ⟨rfl, rfl⟩
  go_wp2_with fail
  go_ret2
  exact ⟨A2, c2, rfl, H2.out⟩
set_option maxHeartbeats 1000000 in
/-- Where they are not. -/
theorem dataAt_bad {A : Option Addr} {n c : Nat} {l : List UInt8} {w : World} (hb : Bs w A n c l) (h47 : n ≤ 140737488350000) (at_ : Nat) (ha : at_ ≤ 140737488360000) (h : n < at_ + 2 + (if n < at_ + 2 then 0 else num2 l at_)) (hg : Handle w) : Calls Tryz.prog 85 #[.slice A n c, .int .i64 at_] w fun e w' =>
    ∃ A' n' c' T x, e = .returned (.tuple #[.slice A' n' c', .iface T x]) ∧ Tells w' (.iface T x) ⟨3, at_, true⟩ ∧ Below w.heap.size w w' := by
  have HB := Lib.hid (And.intro hb hg)
  by_cases h2 : n < at_ + 2
  · have K1 := Lib.hid (u16_not hb (k := at_) (by omega) h2)
    clear hb hg h
    go_enter Tryz.func85, Tryz.ntmps85
    go_wp2_with fail
    refine K1.out.mono ?_
    rintro e w1 ⟨z1, T, x, rfl, t1, b1⟩
    have H1 := Lib.hid (And.intro t1 b1)
    clear t1 b1
    go_wp2_with fail
    go_ret2
    exact ⟨none, 0, 0, T, x, rfl, H1.out⟩
  · rw [if_neg h2] at h
    obtain ⟨k, hk⟩ : ∃ k, num2 l at_ = k := ⟨_, rfl⟩
    rw [hk] at h
    have hk2 : k < 65536 := by rw [← hk]; exact num2_lt _ _
    have hnd : needOf n ((at_ : Int) + 2) (k : Int) = ⟨3, (at_ : Int) + 2, true⟩ := by
      rw [show (at_ : Int) + 2 = ((at_ + 2 : Nat) : Int) by omega]
      exact need_short h (by omega)
    have KP := Lib.hid fun w1 (b : Below w.heap.size w w1) => part_any (hb.later b (Nat.le_refl _)) ((at_ : Int) + 2) (k : Int) (by omega) (by omega) h47
    rw [hnd] at KP
    have K1 := Lib.hid (u16_there hb h47 (k := at_) (by omega))
    rw [hk] at K1
    clear hb hnd hk h hg
    go_enter Tryz.func85, Tryz.ntmps85
    go_wp2_with fail
    refine K1.out.mono ?_
    rintro e w1 ⟨rfl, b1⟩
    have H1 := Lib.hid b1
    clear b1
    go_wp2_with fail
    refine (KP.out w1 H1.out).mono ?_
    rintro e w2 ⟨A2, n2, c2, v2, rfl, hB2, t2, b2⟩
    have hp2 := H1.out.trans (b2.mono H1.out.size)
    have kd := deeper_told t2 (show (3 : Int) ≠ 0 by decide) rfl (-2) (by dsimp only; omega) (by dsimp only; omega) (HB.out.2.later hp2 (Nat.le_refl _))
    rw [show (-2 : Int) + (⟨3, (at_ : Int) + 2, true⟩ : Fl).at_ = at_ by dsimp only; omega] at kd
    have H2 := Lib.hid (And.intro kd hp2)
    clear t2 b2 hB2 hp2 kd
    go_wp2_with fail
    refine H2.out.1.mono ?_
    rintro e w3 ⟨v3, rfl, t3, b3⟩
    obtain ⟨T, x, rfl⟩ := t3.held' (show (3 : Int) ≠ 0 by decide)
    have H3 := Lib.hid (And.intro t3 (H2.out.2.trans (b3.mono H2.out.2.size)))
    clear t3 b3
    go_wp2_with fail
    go_ret2
    exact ⟨A2, n2, c2, T, x, rfl, H3.out⟩
/-- Bytes copied into a record's address. -/
theorem wpList_copy_rc {ops : Array Oper} {rest : List Oper} {o : Oper} {a : Act} {w : World} {Q : Exit → Act → World → Prop} (hgd : o.guard = none) (d s : Operand) (ho : o.op = .call { callee := .builtin .copy, args := #[d, s], argTypes := #[22, 22] })
    {g : Nat} {r : Rc} {A B : Option Addr} {n c k m : Nat} {l : List UInt8} (hd : a.eval d = .slice (some ⟨g, 5, none⟩) 16 16) (hs : a.eval s = .slice B k m) (hb : Bs w B k m l) (h0 : 0 < k) (hk : k ≤ 16) (hA : RcBox w g r A n c)
    (h : ∀ w', RcBox w' g { r with adr := l ++ r.adr.drop k } A n c → (∀ j, j ≠ g → w'.heap[j]? = w.heap[j]?) → w'.heap.size = w.heap.size → (∀ B w0, B ≤ g → Below B w0 w → Below B w0 w') → wpList Tryz.prog ops Q rest (a.put o.dst (goInt k)) w') : wpList Tryz.prog ops Q (o :: rest) a w :=
  wpList_plain hgd fun _ hK => by
    obtain ⟨b, off, rfl, hc⟩ := hb.here h0
    have hl := hb.len
    have hrun := run_copy_row (P := Tryz.prog) w 22 22 o.type 5 g 5 16 16 ⟨b, off, none⟩ k m (rcv r A n c) 57 (bv l) Tryz.underlying22 (by kernel_rfl) hA.1 (by rw [bv_length, hl]; show k = min k 16; omega) (fun j u hj => by
      obtain ⟨y, hy, rfl⟩ := bv_get hj
      rw [add_plain]
      exact hc j y hy) (by rw [bv_length, hl, rcv_size hA.2]; omega) (bv_one _)
    have hlaid := rcv_laid (A := A) (n := n) (c := c) hA.2 (xs := l) (by omega)
    rw [hlaid, bv_length, hl] at hrun
    have hk' : (Rc.ok { r with adr := l ++ r.adr.drop k }) := by
      have := hA.2
      unfold Rc.ok at this ⊢
      dsimp only
      rw [List.length_append, List.length_drop]
      omega
    have h2 := hK _ _ (h _ ⟨setRow_heap w g _ _ _ _ hA.1, hk'⟩ (fun k hk => setRow_other w g k _ hk) (size_setRow w g _) (fun B w0 hB hb => below_setRow hb hB _))
    unfold Oper.wp execOp
    simp only [ho, resolve, invoke, builtin, Sem.run_bind, Sem.run_pure, Result.andThen_ok, List.map_toArray, List.map_cons, List.map_nil, hd, hs, hrun]
    exact h2
/-- What with hands back. -/
def DatOf (A' : Option Addr) (n' c' : Nat) (d : List UInt8) (B : Option Addr) (k m : Nat) (x : List UInt8) : Prop := (d = [] ∧ A' = none ∧ n' = 0 ∧ c' = 0) ∨ (d = x ∧ A' = B ∧ n' = k ∧ c' = m)
theorem DatOf.bs {A' : Option Addr} {n' c' : Nat} {d : List UInt8} {B : Option Addr} {k m : Nat} {x : List UInt8} (h : DatOf A' n' c' d B k m x) {w : World} (hb : Bs w B k m x) : Bs w A' n' c' d := by
  rcases h with ⟨rfl, rfl, rfl, rfl⟩ | ⟨rfl, rfl, rfl, rfl⟩
  · exact Bs.nil _
  · exact hb
def WithR (x : Rc × Fl) (B : Option Addr) (k m : Nat) (xl : List UInt8) (w : World) (e : Ending) (w' : World) : Prop := ∃ A' n' c' v, e = .returned (.tuple #[.agg (rcv x.1 A' n' c'), v]) ∧ DatOf A' n' c' x.1.data B k m xl ∧ Tells w' v x.2 ∧ Below w.heap.size w w'
theorem asRc_ok (q : Qs) (t : Int) : (q.asRc t).ok := rfl
set_option maxHeartbeats 4000000 in
theorem with_any {A : Option Addr} {n c : Nat} {l : List UInt8} {w : World} (hb : Bs w A n c l) (h47 : n ≤ 140737488350000) (q : Qs) (t : Int) (at_ k : Nat) (hn : at_ + 2 + k ≤ n) (hk : k < 65536) {B : Option Addr} {m : Nat} (hB : Bs w B k m ((l.drop (at_ + 2)).take k)) :
    Calls Tryz.prog 86 #[.agg (rcv (q.asRc t) none 0 0), .slice A n c, .int .i64 at_, .slice B k m] w (WithR (dataV l n (q.asRc t) at_ k) B k m ((l.drop (at_ + 2)).take k) w) := by
  have a1 := RcBox.new w (asRc_ok q t) none 0 0
  have b1 : Below w.heap.size w (w.alloc (.cells (rcv (q.asRc t) none 0 0) 57)) := (Below.refl _ _).alloc (Nat.le_refl _) _
  obtain ⟨W, hW⟩ : ∃ W, w.alloc (.cells (rcv (q.asRc t) none 0 0) 57) = W := ⟨_, rfl⟩
  rw [hW] at a1 b1
  have HA := Lib.hid (And.intro a1 b1)
  have HW := Lib.hid hW
  have HB := Lib.hid (And.intro hb hB)
  have hne : w.heap.size ≠ W.heap.size := Nat.ne_of_lt a1.lt
  have hle : w.heap.size ≤ W.heap.size := b1.size
  have hat : ¬ (9223372036854775807 : Int) < (at_ : Int) := by omega
  clear a1 b1 hW hb hB
  unfold WithR
  by_cases h28 : q.kind = 28
  · obtain ⟨name, kind, cls⟩ := q
    dsimp only at h28
    subst h28
    by_cases hk16 : k = 16
    · subst hk16
      have hd : dataV l n ((⟨name, 28, cls⟩ : Qs).asRc t) at_ 16 = (⟨name, 28, cls, t, true, (l.drop (at_ + 2)).take 16, [], []⟩, fl0) := rfl
      rw [hd]
      generalize (l.drop (at_ + 2)).take 16 = x at HB ⊢
      have hx16 : x.length = 16 := HB.out.2.len
      clear hd
      go_enter Tryz.func86, Tryz.ntmps86
      go_wp2_with (first
        | (refine wpList_load_rcAd rfl (.tmp 24) rfl rfl H2.out.1 ?_)
        | (refine wpList_putV6_rc rfl (.tmp 21) (.const (.bool true)) rfl true rfl rfl H1.out.1 ?_; intro w2 a2 o2 z2 g2; have H2 := Lib.hid (And.intro a2 (And.intro (H1.out.2.1.same (o2 _ (Ne.symm hne))) (g2 w.heap.size w (Nat.le_refl _) H1.out.2.2))); clear a2 o2 z2 g2)
        | (rw [HW.out]; refine wpList_alloc_rc rfl rfl ?_; intro w1 a1 g1 z1; have H1 := Lib.hid (And.intro (HA.out.1.later g1 (Nat.le_refl _)) (And.intro a1 (HA.out.2.trans (g1.mono HA.out.2.size)))); have e1 := H1.out.1.kind; clear a1 g1 z1))
      refine (widthR_any true zero16 rfl w2).mono ?_
      rintro e w3 ⟨rfl, g3⟩
      rw [show widB true = 16 from rfl]
      have H3 := Lib.hid (And.intro (H2.out.1.later g3 (Nat.le_refl _)) (And.intro (H2.out.2.1.later g3 (Nat.le_refl _)) (H2.out.2.2.trans (g3.mono H2.out.2.2.size))))
      clear g3 e1
      go_wp2_with (first
        | (refine wpList_store_rc rfl (.tmp 8) (.tmp 53) rfl ⟨name, 28, cls, t, true, x, [], []⟩ none 0 0 rfl rfl hx16 H4.out.2.1 ?_; intro w5 a5 o5 z5 g5; have H5 := Lib.hid (And.intro a5 (g5 w.heap.size w hle H4.out.2.2)); clear a5 o5 z5 g5)
        | (refine wpList_load_rc rfl (.tmp 4) rfl rfl H4.out.1 ?_)
        | (refine wpList_copy_rc rfl (.tmp 34) (.tmp 35) rfl rfl rfl (HB.out.2.later H3.out.2.2 (Nat.le_refl _)) (by omega) (by omega) H3.out.1 ?_; intro w4 a4 o4 z4 g4; have H4 := Lib.hid (And.intro (show RcBox w4 w.heap.size ⟨name, 28, cls, t, true, x, [], []⟩ none 0 0 by (have a5 : RcBox w4 w.heap.size ⟨name, 28, cls, t, true, x ++ List.drop 16 zero16, [], []⟩ none 0 0 := a4); rw [show x ++ List.drop 16 zero16 = x from List.append_nil _] at a5; exact a5) (And.intro (H3.out.2.1.same (o4 _ (Ne.symm hne))) (g4 w.heap.size w (Nat.le_refl _) H3.out.2.2))); clear a4 o4 z4 g4))
      exact bodyPost_ret (results_rc_tmp rfl _ rfl H5.out.1) rfl ⟨none, 0, 0, .nilIface, rfl, .inl ⟨rfl, rfl, rfl, rfl⟩, Tells.nil _ _ _, H5.out.2⟩
    · have hd : dataV l n ((⟨name, 28, cls⟩ : Qs).asRc t) at_ k = (.zero, ⟨7, at_, true⟩) := by
        unfold dataV Qs.asRc
        dsimp only
        rw [if_pos rfl, if_pos hk16]
      rw [hd]
      clear hd
      have hk16' : ¬ (k : Int) = 16 := by omega
      go_enter Tryz.func86, Tryz.ntmps86
      go_wp2_with (first
        | (refine wpList_load_rcAd rfl (.tmp 24) rfl rfl H2.out.1 ?_)
        | (refine wpList_putV6_rc rfl (.tmp 21) (.const (.bool true)) rfl true rfl rfl H1.out.1 ?_; intro w2 a2 o2 z2 g2; have H2 := Lib.hid (And.intro a2 (And.intro (H1.out.2.1.same (o2 _ (Ne.symm hne))) (g2 w.heap.size w (Nat.le_refl _) H1.out.2.2))); clear a2 o2 z2 g2)
        | (rw [HW.out]; refine wpList_alloc_rc rfl rfl ?_; intro w1 a1 g1 z1; have H1 := Lib.hid (And.intro (HA.out.1.later g1 (Nat.le_refl _)) (And.intro a1 (HA.out.2.trans (g1.mono HA.out.2.size)))); have e1 := H1.out.1.kind; clear a1 g1 z1))
      refine (widthR_any true zero16 rfl w2).mono ?_
      rintro e w3 ⟨rfl, g3⟩
      rw [show widB true = 16 from rfl]
      have H3 := Lib.hid (And.intro (H2.out.2.1.later g3 (Nat.le_refl _)) (H2.out.2.2.trans (g3.mono H2.out.2.2.size)))
      clear g3 e1
      go_wp2_with fail
      refine (wrap_told (a := 0) at_ (Tells.bare w3 7 (by decide) 0) (by decide)).mono ?_
      rintro e w4 ⟨v, rfl, t4, g4⟩
      have H4 := Lib.hid (And.intro (H3.out.1.later g4 (Nat.le_refl _)) (And.intro t4 (H3.out.2.trans (g4.mono H3.out.2.size))))
      clear t4 g4
      go_wp2_with (refine wpList_store_rc rfl (.tmp 8) (.tmp 28) rfl .zero none 0 0 rfl rfl Rc.zero_ok H4.out.1 ?_; intro w5 a5 o5 z5 g5; have H5 := Lib.hid (And.intro a5 (And.intro (H4.out.2.1.farRc H4.out.1 o5) (g5 w.heap.size w hle H4.out.2.2))); clear a5 o5 z5 g5)
      exact bodyPost_ret (results_rc_tmp rfl _ rfl H5.out.1) rfl ⟨none, 0, 0, v, rfl, .inl ⟨rfl, rfl, rfl, rfl⟩, H5.out.2⟩
  by_cases h1 : q.kind = 1
  · obtain ⟨name, kind, cls⟩ := q
    dsimp only at h1
    subst h1
    clear h28
    by_cases hk4 : k = 4
    · subst hk4
      have hd : dataV l n ((⟨name, 1, cls⟩ : Qs).asRc t) at_ 4 = (⟨name, 1, cls, t, false, (l.drop (at_ + 2)).take 4 ++ zero12, [], []⟩, fl0) := rfl
      rw [hd]
      generalize (l.drop (at_ + 2)).take 4 = x at HB ⊢
      have hx4 : (x ++ zero12).length = 16 := by rw [List.length_append, HB.out.2.len]; rfl
      clear hd
      go_enter Tryz.func86, Tryz.ntmps86
      go_wp2_with (first
        | (refine wpList_load_rcAd rfl (.tmp 24) rfl rfl H1.out.1 ?_)
        | (rw [HW.out]; refine wpList_alloc_rc rfl rfl ?_; intro w1 a1 g1 z1; have H1 := Lib.hid (And.intro (HA.out.1.later g1 (Nat.le_refl _)) (And.intro a1 (HA.out.2.trans (g1.mono HA.out.2.size)))); have e1 := H1.out.1.kind; clear a1 g1 z1))
      refine (widthR_any false zero16 rfl w1).mono ?_
      rintro e w3 ⟨rfl, g3⟩
      rw [show widB false = 4 from rfl]
      have H3 := Lib.hid (And.intro (H1.out.1.later g3 (Nat.le_refl _)) (And.intro (H1.out.2.1.later g3 (Nat.le_refl _)) (H1.out.2.2.trans (g3.mono H1.out.2.2.size))))
      clear g3 e1
      go_wp2_with (first
        | (refine wpList_store_rc rfl (.tmp 8) (.tmp 53) rfl ⟨name, 1, cls, t, false, x ++ zero12, [], []⟩ none 0 0 rfl rfl hx4 H4.out.2.1 ?_; intro w5 a5 o5 z5 g5; have H5 := Lib.hid (And.intro a5 (g5 w.heap.size w hle H4.out.2.2)); clear a5 o5 z5 g5)
        | (refine wpList_load_rc rfl (.tmp 4) rfl rfl H4.out.1 ?_)
        | (refine wpList_copy_rc rfl (.tmp 34) (.tmp 35) rfl rfl rfl (HB.out.2.later H3.out.2.2 (Nat.le_refl _)) (by omega) (by omega) H3.out.1 ?_; intro w4 a4 o4 z4 g4; have H4 := Lib.hid (And.intro (show RcBox w4 w.heap.size ⟨name, 1, cls, t, false, x ++ zero12, [], []⟩ none 0 0 by exact a4) (And.intro (H3.out.2.1.same (o4 _ (Ne.symm hne))) (g4 w.heap.size w (Nat.le_refl _) H3.out.2.2))); clear a4 o4 z4 g4))
      exact bodyPost_ret (results_rc_tmp rfl _ rfl H5.out.1) rfl ⟨none, 0, 0, .nilIface, rfl, .inl ⟨rfl, rfl, rfl, rfl⟩, Tells.nil _ _ _, H5.out.2⟩
    · have hd : dataV l n ((⟨name, 1, cls⟩ : Qs).asRc t) at_ k = (.zero, ⟨7, at_, true⟩) := by
        unfold dataV Qs.asRc
        dsimp only
        rw [if_neg (show ¬ (1 : Int) = 28 by decide), if_pos rfl, if_pos hk4]
      rw [hd]
      clear hd
      have hk4' : ¬ (k : Int) = 4 := by omega
      go_enter Tryz.func86, Tryz.ntmps86
      go_wp2_with (first
        | (refine wpList_load_rcAd rfl (.tmp 24) rfl rfl H1.out.1 ?_)
        | (rw [HW.out]; refine wpList_alloc_rc rfl rfl ?_; intro w1 a1 g1 z1; have H1 := Lib.hid (And.intro (HA.out.1.later g1 (Nat.le_refl _)) (And.intro a1 (HA.out.2.trans (g1.mono HA.out.2.size)))); have e1 := H1.out.1.kind; clear a1 g1 z1))
      refine (widthR_any false zero16 rfl w1).mono ?_
      rintro e w3 ⟨rfl, g3⟩
      rw [show widB false = 4 from rfl]
      have H3 := Lib.hid (And.intro (H1.out.2.1.later g3 (Nat.le_refl _)) (H1.out.2.2.trans (g3.mono H1.out.2.2.size)))
      clear g3 e1
      go_wp2_with fail
      refine (wrap_told (a := 0) at_ (Tells.bare w3 7 (by decide) 0) (by decide)).mono ?_
      rintro e w4 ⟨v, rfl, t4, g4⟩
      have H4 := Lib.hid (And.intro (H3.out.1.later g4 (Nat.le_refl _)) (And.intro t4 (H3.out.2.trans (g4.mono H3.out.2.size))))
      clear t4 g4
      go_wp2_with (refine wpList_store_rc rfl (.tmp 8) (.tmp 28) rfl .zero none 0 0 rfl rfl Rc.zero_ok H4.out.1 ?_; intro w5 a5 o5 z5 g5; have H5 := Lib.hid (And.intro a5 (And.intro (H4.out.2.1.farRc H4.out.1 o5) (g5 w.heap.size w hle H4.out.2.2))); clear a5 o5 z5 g5)
      exact bodyPost_ret (results_rc_tmp rfl _ rfl H5.out.1) rfl ⟨none, 0, 0, v, rfl, .inl ⟨rfl, rfl, rfl, rfl⟩, H5.out.2⟩
  by_cases h5 : q.kind = 5
  · obtain ⟨name, kind, cls⟩ := q
    dsimp only at h5
    subst h5
    clear h28 h1
    have KN := Lib.hid fun w1 (g : Below w.heap.size w w1) => nameAt_any (HB.out.1.later g (Nat.le_refl _)) h47 at_ k (by omega) (by omega)
    have hd : ∀ y, nameV (readv l n ((at_ : Int) + 2)) at_ k = y → dataV l n ((⟨name, 5, cls⟩ : Qs).asRc t) at_ k = if y.2.code ≠ 0 then (.zero, y.2) else (⟨name, 5, cls, t, false, zero16, y.1, []⟩, fl0) := fun y hy => by
      subst hy
      rfl
    rw [hd _ rfl]
    clear hd
    generalize nameV (readv l n ((at_ : Int) + 2)) at_ k = y at KN ⊢
    obtain ⟨y, f⟩ := y
    dsimp only at KN ⊢
    by_cases hf : f.code ≠ 0
    · rw [if_pos hf]
      go_enter Tryz.func86, Tryz.ntmps86
      go_wp2_with (rw [HW.out]; refine wpList_alloc_rc rfl rfl ?_; intro w1 a1 g1 z1; have H1 := Lib.hid (And.intro (HA.out.1.later g1 (Nat.le_refl _)) (And.intro a1 (HA.out.2.trans (g1.mono HA.out.2.size)))); have e1 := H1.out.1.kind; clear a1 g1 z1)
      refine (KN.out w1 H1.out.2.2).mono ?_
      rintro e w3 ⟨v, rfl, t3, g3⟩
      obtain ⟨T, x, rfl⟩ := t3.held' hf
      have H3 := Lib.hid (And.intro (H1.out.2.1.later g3 (Nat.le_refl _)) (And.intro t3 (H1.out.2.2.trans (g3.mono H1.out.2.2.size))))
      clear t3 g3 e1
      go_wp2_with (refine wpList_store_rc rfl (.tmp 8) (.tmp 47) rfl .zero none 0 0 rfl rfl Rc.zero_ok H3.out.1 ?_; intro w5 a5 o5 z5 g5; have H5 := Lib.hid (And.intro a5 (And.intro (H3.out.2.1.farRc H3.out.1 o5) (g5 w.heap.size w hle H3.out.2.2))); clear a5 o5 z5 g5)
      exact bodyPost_ret (results_rc_tmp rfl _ rfl H5.out.1) rfl ⟨none, 0, 0, .iface T x, rfl, .inl ⟨rfl, rfl, rfl, rfl⟩, H5.out.2⟩
    · rw [if_neg hf]
      have hf0 : f.code = 0 := Decidable.not_not.1 hf
      clear hf
      go_enter Tryz.func86, Tryz.ntmps86
      go_wp2_with (rw [HW.out]; refine wpList_alloc_rc rfl rfl ?_; intro w1 a1 g1 z1; have H1 := Lib.hid (And.intro (HA.out.1.later g1 (Nat.le_refl _)) (And.intro a1 (HA.out.2.trans (g1.mono HA.out.2.size)))); have e1 := H1.out.1.kind; clear a1 g1 z1)
      refine (KN.out w1 H1.out.2.2).mono ?_
      rintro e w3 ⟨v, rfl, t3, g3⟩
      obtain rfl := t3.none' hf0
      have H3 := Lib.hid (And.intro (H1.out.1.later g3 (Nat.le_refl _)) (And.intro (H1.out.2.1.later g3 (Nat.le_refl _)) (H1.out.2.2.trans (g3.mono H1.out.2.2.size))))
      clear t3 g3 e1
      go_wp2_with (first
        | (refine wpList_store_rc rfl (.tmp 8) (.tmp 53) rfl ⟨name, 5, cls, t, false, zero16, y, []⟩ none 0 0 rfl rfl rfl H4.out.2.1 ?_; intro w5 a5 o5 z5 g5; have H5 := Lib.hid (And.intro a5 (g5 w.heap.size w hle H4.out.2.2)); clear a5 o5 z5 g5)
        | (refine wpList_load_rc rfl (.tmp 4) rfl rfl H4.out.1 ?_)
        | (refine wpList_putTarget_rc rfl (.tmp 50) (.tmp 49) rfl y rfl rfl H3.out.1 ?_; intro w4 a4 o4 z4 g4; have H4 := Lib.hid (And.intro (show RcBox w4 w.heap.size ⟨name, 5, cls, t, false, zero16, y, []⟩ none 0 0 by exact a4) (And.intro (H3.out.2.1.same (o4 _ (Ne.symm hne))) (g4 w.heap.size w (Nat.le_refl _) H3.out.2.2))); clear a4 o4 z4 g4))
      exact bodyPost_ret (results_rc_tmp rfl _ rfl H5.out.1) rfl ⟨none, 0, 0, .nilIface, rfl, .inl ⟨rfl, rfl, rfl, rfl⟩, Tells.nil _ _ _, H5.out.2⟩
  · obtain ⟨name, kind, cls⟩ := q
    dsimp only at h28 h1 h5
    have hd : dataV l n ((⟨name, kind, cls⟩ : Qs).asRc t) at_ k = (⟨name, kind, cls, t, false, zero16, [], (l.drop (at_ + 2)).take k⟩, fl0) := by
      unfold dataV Qs.asRc
      dsimp only
      rw [if_neg h28, if_neg h1, if_neg h5]
    rw [hd]
    generalize (l.drop (at_ + 2)).take k = x at HB ⊢
    clear hd
    go_enter Tryz.func86, Tryz.ntmps86
    go_wp2_with (first
      | (refine wpList_store_rc rfl (.tmp 8) (.tmp 53) rfl ⟨name, kind, cls, t, false, zero16, [], x⟩ B k m rfl rfl rfl H4.out.2.1 ?_; intro w5 a5 o5 z5 g5; have H5 := Lib.hid (And.intro a5 (g5 w.heap.size w hle H4.out.2.2)); clear a5 o5 z5 g5)
      | (refine wpList_load_rc rfl (.tmp 4) rfl rfl H4.out.1 ?_)
      | (refine wpList_putData_rc rfl (.tmp 52) (.tmp 51) rfl x B k m rfl rfl H1.out.1 ?_; intro w4 a4 o4 z4 g4; have H4 := Lib.hid (And.intro (show RcBox w4 w.heap.size ⟨name, kind, cls, t, false, zero16, [], x⟩ B k m by exact a4) (And.intro (H1.out.2.1.same (o4 _ (Ne.symm hne))) (g4 w.heap.size w (Nat.le_refl _) H1.out.2.2))); clear a4 o4 z4 g4)
      | (rw [HW.out]; refine wpList_alloc_rc rfl rfl ?_; intro w1 a1 g1 z1; have H1 := Lib.hid (And.intro (HA.out.1.later g1 (Nat.le_refl _)) (And.intro a1 (HA.out.2.trans (g1.mono HA.out.2.size)))); (have e1 : w1.cell? ⟨w.heap.size, 1, none⟩ = some (.int .i64 kind) := H1.out.1.kind); clear a1 g1 z1))
    exact bodyPost_ret (results_rc_tmp rfl _ rfl H5.out.1) rfl ⟨B, k, m, .nilIface, rfl, .inr ⟨rfl, rfl, rfl, rfl⟩, Tells.nil _ _ _, H5.out.2⟩
end Go.Proofs.YtbikifaadpijnaaGreatDoor

namespace Go.Proofs.YtbikifaadpijnaaGreatDoor
open Go.RowKit
set_option maxRecDepth 100000

theorem readQ_next {l : List UInt8} {n : Nat} {at_ : Int} (h : (readQv l n at_).f.code = 0) : (readQv l n at_).next ≤ n ∧ (readQv l n at_).f = fl0 := by
  unfold readQv readQd at h ⊢
  split at h
  · rename_i h1; exact absurd h h1
  rename_i h1
  split at h
  · exact absurd h (show (3 : Int) ≠ 0 by decide)
  rename_i h2
  split at h
  · exact absurd h (show (3 : Int) ≠ 0 by decide)
  rename_i h3
  rw [if_neg h1, if_neg h2, if_neg h3]
  exact ⟨by dsimp only; omega, rfl⟩
/-- What ReadQuestion answers, by whether there is a question. -/
theorem readQ_ways {A : Option Addr} {n c : Nat} {l : List UInt8} (h47 : n ≤ 140737488350000) (at_ : Int) (ha : at_ ≤ 9223372036854775807) :
    ((readQv l n at_).f.code = 0 ∧ (readQv l n at_).next ≤ n ∧ ∀ w, Bs w A n c l → Calls Tryz.prog 51 #[.slice A n c, .int .i64 at_] w fun e w' => e = .returned (.tuple #[.agg (qsv (readQv l n at_).q), .int .i64 (readQv l n at_).next, .nilIface]) ∧ Below w.heap.size w w') ∨
    ((readQv l n at_).f.code ≠ 0 ∧ ∀ w, Bs w A n c l → Calls Tryz.prog 51 #[.slice A n c, .int .i64 at_] w fun e w' => ∃ q z T x, e = .returned (.tuple #[.agg (qsv q), .int .i64 z, .iface T x]) ∧ Tells w' (.iface T x) (readQv l n at_).f ∧ Below w.heap.size w w') := by
  by_cases h : (readQv l n at_).f.code = 0
  · refine .inl ⟨h, (readQ_next h).1, fun w hb => (readQ_any hb h47 at_ ha).mono ?_⟩
    rintro e w' ⟨v, rfl, t, b⟩
    obtain rfl := t.none' h
    exact ⟨rfl, b⟩
  · refine .inr ⟨h, fun w hb => (readQ_any hb h47 at_ ha).mono ?_⟩
    rintro e w' ⟨v, rfl, t, b⟩
    obtain ⟨T, x, rfl⟩ := t.held' h
    exact ⟨_, _, T, x, rfl, t, b⟩
theorem run_build_rc4 (name : List UInt8) (kind cls ttl : Int) (w : World) : (Instr.build 57 #[(0, .string (mkS name)), (1, .int .i64 kind), (2, .int .i64 cls), (3, .int .u32 ttl)]).run Tryz.prog w = .ok (.agg (rcv ⟨name, kind, cls, ttl, false, zero16, [], []⟩ none 0 0)) w := by kernel_rfl
theorem wp_build_rc4 {o : Oper} {a : Act} {w : World} {K : Act → World → Prop} {Q : Exit → Act → World → Prop} (x0 x1 x2 x3 : Operand) (ho : o.op = .build 57 #[(0, x0), (1, x1), (2, x2), (3, x3)]) (name : List UInt8) (kind cls ttl : Int) (h0 : a.eval x0 = .string (mkS name)) (h1 : a.eval x1 = .int .i64 kind) (h2 : a.eval x2 = .int .i64 cls) (h3 : a.eval x3 = .int .u32 ttl)
    (h : K (a.put o.dst (.agg (rcv ⟨name, kind, cls, ttl, false, zero16, [], []⟩ none 0 0))) w) : o.wp Tryz.prog a w K Q := by
  have hrun := run_build_rc4 name kind cls ttl w
  unfold Oper.wp execOp
  simp only [ho, Sem.run_bind, Sem.run_pure, Result.andThen_ok, List.map_toArray, List.map_cons, List.map_nil, h0, h1, h2, h3, hrun]
  exact h
theorem wpList_build_rc4 {ops : Array Oper} {rest : List Oper} {o : Oper} {a : Act} {w : World} {Q : Exit → Act → World → Prop} (hgd : o.guard = none) (x0 x1 x2 x3 : Operand) (ho : o.op = .build 57 #[(0, x0), (1, x1), (2, x2), (3, x3)]) (name : List UInt8) (kind cls ttl : Int) (h0 : a.eval x0 = .string (mkS name)) (h1 : a.eval x1 = .int .i64 kind) (h2 : a.eval x2 = .int .i64 cls) (h3 : a.eval x3 = .int .u32 ttl)
    (h : wpList Tryz.prog ops Q rest (a.put o.dst (.agg (rcv ⟨name, kind, cls, ttl, false, zero16, [], []⟩ none 0 0))) w) : wpList Tryz.prog ops Q (o :: rest) a w :=
  wpList_plain hgd fun _ hK => wp_build_rc4 x0 x1 x2 x3 ho name kind cls ttl h0 h1 h2 h3 (hK _ _ h)
theorem dataV_ok (l : List UInt8) (n : Nat) (q : Qs) (t : Int) (at_ k : Nat) (h : k = ((l.drop (at_ + 2)).take k).length) : (dataV l n (q.asRc t) at_ k).1.ok := by
  unfold dataV
  split
  · split
    · rfl
    · rename_i h16
      have : k = 16 := Decidable.not_not.1 h16
      subst this
      exact h.symm
  split
  · split
    · rfl
    · rename_i h4
      have : k = 4 := Decidable.not_not.1 h4
      subst this
      show (_ ++ zero12).length = 16
      rw [List.length_append, ← h]
      rfl
  split
  · split <;> rfl
  · rfl
/-- What ReadRecord hands back. -/
def ReadRR (r : Rr) (w : World) (e : Ending) (w' : World) : Prop := ∃ A' n' c' v, e = .returned (.tuple #[.agg (rcv r.r A' n' c'), .int .i64 r.next, v]) ∧ Bs w' A' n' c' r.r.data ∧ Tells w' v r.f ∧ Below w.heap.size w w'
set_option maxHeartbeats 4000000 in
theorem readR_any {A : Option Addr} {n c : Nat} {l : List UInt8} {w : World} (hb : Bs w A n c l) (h47 : n ≤ 140737488350000) (at_ : Int) (ha : at_ ≤ 9223372036854775807) (hg : Handle w) : Calls Tryz.prog 53 #[.slice A n c, .int .i64 at_] w (ReadRR (readRv l n at_) w) := by
  unfold readRv ReadRR
  have hlen := hb.len
  have HB := Lib.hid (And.intro hb hg)
  clear hb hg
  rcases readQ_ways (A := A) (c := c) (l := l) h47 at_ ha with ⟨h1, h2, h3⟩ | ⟨h1, h3⟩
  · generalize readQv l n at_ = q at h1 h2 h3 ⊢
    obtain ⟨⟨name, kind, cls⟩, next, f⟩ := q
    dsimp only at h1 h2 h3
    have K := Lib.hid h3
    clear h3
    unfold readRq
    dsimp only
    rw [if_neg (by omega)]
    clear h1
    by_cases q4 : n < next + 4
    · rw [if_pos q4]
      go_enter Tryz.func53, Tryz.ntmps53
      go_wp2_with (refine wpList_alloc_rc rfl rfl ?_; intro w1 a1 b1 z1; have H1 := Lib.hid (And.intro a1 b1); clear a1 b1 z1)
      refine (K.out w1 (HB.out.1.later H1.out.2 (Nat.le_refl _))).mono ?_
      rintro e w2 ⟨rfl, b2⟩
      have H2 := Lib.hid (And.intro (H1.out.1.later b2 (Nat.le_refl _)) (H1.out.2.trans (b2.mono H1.out.2.size)))
      clear b2
      go_wp2_with (first
        | (refine wpList_store_qs rfl (.tmp 7) (.tmp 16) rfl ⟨name, kind, cls⟩ rfl rfl H3.out.2.1 ?_; intro w4 a4 o4 z4 g4; have H4 := Lib.hid (And.intro (H3.out.1.same (o4 _ (Nat.ne_of_lt H2.out.1.lt))) (g4 w.heap.size w H2.out.2.size H3.out.2.2)); clear a4 o4 z4 g4)
        | (refine wpList_alloc_qs rfl rfl ?_; intro w3 a3 b3 z3; have H3 := Lib.hid (And.intro (H2.out.1.later b3 (Nat.le_refl _)) (And.intro a3 (H2.out.2.trans (b3.mono H2.out.2.size)))); clear a3 b3 z3))
      refine (u32_not (HB.out.1.later H4.out.2 (Nat.le_refl _)) (by omega) q4).mono ?_
      rintro e w5 ⟨z5, T, x, rfl, t5, b5⟩
      have H5 := Lib.hid (And.intro (H4.out.1.later b5 (Nat.le_refl _)) (And.intro t5 (H4.out.2.trans (b5.mono H4.out.2.size))))
      clear t5 b5
      go_wp2_with (refine wpList_store_rc rfl (.tmp 4) (.tmp 31) rfl .zero none 0 0 rfl rfl Rc.zero_ok H5.out.1 ?_; intro w6 a6 o6 z6 g6; have H6 := Lib.hid (And.intro a6 (And.intro (H5.out.2.1.farRc H5.out.1 o6) (g6 w.heap.size w (Nat.le_refl _) H5.out.2.2))); clear a6 o6 z6 g6)
      exact bodyPost_ret (results_rc3 _ rfl rfl H6.out.1) rfl ⟨none, 0, 0, .iface T x, rfl, Bs.nil _, H6.out.2⟩
    rw [if_neg q4]
    by_cases q6 : n < next + 6 + (if n < next + 6 then 0 else num2 l (next + 4))
    · rw [if_pos q6]
      have q6' : n < next + 4 + 2 + (if n < next + 4 + 2 then 0 else num2 l (next + 4)) := by
        rw [show next + 4 + 2 = next + 6 by omega]; exact q6
      have KD := Lib.hid fun w1 (g : Below w.heap.size w w1) => dataAt_bad (HB.out.1.later g (Nat.le_refl _)) h47 (next + 4) (by omega) q6' (HB.out.2.later g (Nat.le_refl _))
      clear q6 q6'
      go_enter Tryz.func53, Tryz.ntmps53
      go_wp2_with (refine wpList_alloc_rc rfl rfl ?_; intro w1 a1 b1 z1; have H1 := Lib.hid (And.intro a1 b1); clear a1 b1 z1)
      refine (K.out w1 (HB.out.1.later H1.out.2 (Nat.le_refl _))).mono ?_
      rintro e w2 ⟨rfl, b2⟩
      have H2 := Lib.hid (And.intro (H1.out.1.later b2 (Nat.le_refl _)) (H1.out.2.trans (b2.mono H1.out.2.size)))
      clear b2
      go_wp2_with (first
        | (refine wpList_store_qs rfl (.tmp 7) (.tmp 16) rfl ⟨name, kind, cls⟩ rfl rfl H3.out.2.1 ?_; intro w4 a4 o4 z4 g4; have H4 := Lib.hid (And.intro (H3.out.1.same (o4 _ (Nat.ne_of_lt H2.out.1.lt))) (g4 w.heap.size w H2.out.2.size H3.out.2.2)); clear a4 o4 z4 g4)
        | (refine wpList_alloc_qs rfl rfl ?_; intro w3 a3 b3 z3; have H3 := Lib.hid (And.intro (H2.out.1.later b3 (Nat.le_refl _)) (And.intro a3 (H2.out.2.trans (b3.mono H2.out.2.size)))); clear a3 b3 z3))
      refine (u32_there (HB.out.1.later H4.out.2 (Nat.le_refl _)) h47 (by omega)).mono ?_
      rintro e w5 ⟨rfl, b5⟩
      have H5 := Lib.hid (And.intro (H4.out.1.later b5 (Nat.le_refl _)) (H4.out.2.trans (b5.mono H4.out.2.size)))
      clear b5
      go_wp2_with fail
      rw [show (next : Int) + 4 = ((next + 4 : Nat) : Int) by omega]
      refine (KD.out w5 H5.out.2).mono ?_
      rintro e w6 ⟨A6, n6, c6, T, x, rfl, t6, b6⟩
      have H6 := Lib.hid (And.intro (H5.out.1.later b6 (Nat.le_refl _)) (And.intro t6 (H5.out.2.trans (b6.mono H5.out.2.size))))
      clear t6 b6
      go_wp2_with (refine wpList_store_rc rfl (.tmp 4) (.tmp 42) rfl .zero none 0 0 rfl rfl Rc.zero_ok H6.out.1 ?_; intro w7 a7 o7 z7 g7; have H7 := Lib.hid (And.intro a7 (And.intro (H6.out.2.1.farRc H6.out.1 o7) (g7 w.heap.size w (Nat.le_refl _) H6.out.2.2))); clear a7 o7 z7 g7)
      exact bodyPost_ret (results_rc3 _ rfl rfl H7.out.1) rfl ⟨none, 0, 0, .iface T x, rfl, Bs.nil _, H7.out.2⟩
    rw [if_neg q6]
    have q6a : ¬ n < next + 6 := fun h => q6 (by omega)
    rw [if_neg q6a] at q6
    obtain ⟨k, hk⟩ : ∃ k, num2 l (next + 4) = k := ⟨_, rfl⟩
    have hk2 : k < 65536 := by rw [← hk]; exact num2_lt _ _
    have KD := Lib.hid fun w1 (g : Below w.heap.size w w1) => dataAt_ok (HB.out.1.later g (Nat.le_refl _)) h47 (next + 4) k hk (by omega)
    rw [hk] at q6 ⊢
    have hlk : ((l.drop (next + 4 + 2)).take k).length = k := by rw [List.length_take, List.length_drop]; omega
    have KW := Lib.hid fun w1 B m (g : Below w.heap.size w w1) hB => with_any (w := w1) (B := B) (m := m) (HB.out.1.later g (Nat.le_refl _)) h47 ⟨name, kind, cls⟩ (num4 l next) (next + 4) k (by omega) hk2 hB
    have hok := dataV_ok l n ⟨name, kind, cls⟩ (num4 l next) (next + 4) k hlk.symm
    unfold WithR at KW
    generalize dataV l n ((⟨name, kind, cls⟩ : Qs).asRc (num4 l next)) (next + 4) k = y at KW hok ⊢
    obtain ⟨y, f⟩ := y
    dsimp only at KW hok ⊢
    have HY := Lib.hid hok
    clear hk hok
    by_cases hf : f.code ≠ 0
    · rw [if_pos hf]
      go_enter Tryz.func53, Tryz.ntmps53
      go_wp2_with (refine wpList_alloc_rc rfl rfl ?_; intro w1 a1 b1 z1; have H1 := Lib.hid (And.intro a1 b1); clear a1 b1 z1)
      refine (K.out w1 (HB.out.1.later H1.out.2 (Nat.le_refl _))).mono ?_
      rintro e w2 ⟨rfl, b2⟩
      have H2 := Lib.hid (And.intro (H1.out.1.later b2 (Nat.le_refl _)) (H1.out.2.trans (b2.mono H1.out.2.size)))
      clear b2
      go_wp2_with (first
        | (refine wpList_store_qs rfl (.tmp 7) (.tmp 16) rfl ⟨name, kind, cls⟩ rfl rfl H3.out.2.1 ?_; intro w4 a4 o4 z4 g4; have H4 := Lib.hid (And.intro (H3.out.1.same (o4 _ (Nat.ne_of_lt H2.out.1.lt))) (And.intro a4 (g4 w.heap.size w H2.out.2.size H3.out.2.2))); clear a4 o4 z4 g4)
        | (refine wpList_alloc_qs rfl rfl ?_; intro w3 a3 b3 z3; have H3 := Lib.hid (And.intro (H2.out.1.later b3 (Nat.le_refl _)) (And.intro a3 (H2.out.2.trans (b3.mono H2.out.2.size)))); clear a3 b3 z3))
      refine (u32_there (HB.out.1.later H4.out.2.2 (Nat.le_refl _)) h47 (by omega)).mono ?_
      rintro e w5 ⟨rfl, b5⟩
      have H5 := Lib.hid (And.intro (H4.out.1.later b5 (Nat.le_refl _)) (And.intro (H4.out.2.1.later b5 (Nat.le_refl _)) (H4.out.2.2.trans (b5.mono H4.out.2.2.size))))
      clear b5
      go_wp2_with fail
      rw [show (next : Int) + 4 = ((next + 4 : Nat) : Int) by omega]
      refine (KD.out w5 H5.out.2.2).mono ?_
      rintro e w6 ⟨A6, c6, rfl, hB6, w6o, b6⟩
      have H6 := Lib.hid (And.intro (H5.out.1.later b6 (Nat.le_refl _)) (And.intro (H5.out.2.1.later b6 (Nat.le_refl _)) (And.intro (And.intro hB6 (show ∀ a, A6 = some a → a.block ≠ w.heap.size from fun a ha => Nat.ne_of_gt (Nat.lt_of_lt_of_le H5.out.1.lt (w6o a ha)))) (H5.out.2.2.trans (b6.mono H5.out.2.2.size)))))
      have e0 : w6.cell? ⟨w2.heap.size, 0, none⟩ = some (.string (mkS name)) := H6.out.2.1.cell 0
      have e1 : w6.cell? ⟨w2.heap.size, 1, none⟩ = some (.int .i64 kind) := H6.out.2.1.cell 1
      have e2 : w6.cell? ⟨w2.heap.size, 2, none⟩ = some (.int .i64 cls) := H6.out.2.1.cell 2
      clear b6 hB6 w6o
      go_wp2_with (first
        | (refine wpList_load_rc rfl (.tmp 11) rfl rfl H8.out.2.1 ?_)
        | (refine wpList_store_rc rfl (.tmp 11) (.tmp 51) rfl ⟨name, kind, cls, (num4 l next : Nat), false, zero16, [], []⟩ none 0 0 rfl rfl rfl H7.out.2.1 ?_; intro w8 a8 o8 z8 g8; have H8 := Lib.hid (And.intro (H7.out.1.same (o8 _ (Nat.ne_of_lt H6.out.1.lt))) (And.intro a8 (And.intro (g8 w6.heap.size w6 (Nat.le_refl _) H7.out.2.2) (g8 w.heap.size w H6.out.2.2.2.size (H6.out.2.2.2.trans (H7.out.2.2.mono H6.out.2.2.2.size)))))); clear a8 o8 z8 g8)
        | (refine wpList_alloc_rc rfl rfl ?_; intro w7 a7 b7 z7; have H7 := Lib.hid (And.intro (H6.out.1.later b7 (Nat.le_refl _)) (And.intro a7 b7)); clear a7 b7 z7)
        | (refine wpList_build_rc4 rfl (.tmp 45) (.tmp 47) (.tmp 49) (.tmp 50) rfl name kind cls (num4 l next : Nat) rfl rfl rfl rfl ?_))
      rw [show (next : Int) + 4 = ((next + 4 : Nat) : Int) by omega]
      refine (KW.out w8 A6 c6 H8.out.2.2.2 (H6.out.2.2.1.1.later H8.out.2.2.1 (Nat.le_refl _))).mono ?_
      rintro e w9 ⟨A9, n9, c9, v9, rfl, hB9, t9, b9⟩
      obtain ⟨T, x, rfl⟩ := t9.held' hf
      have H9 := Lib.hid (And.intro (H8.out.1.later b9 (Nat.le_refl _)) (And.intro (H8.out.2.1.later b9 (Nat.le_refl _)) (And.intro t9 (H8.out.2.2.2.trans (b9.mono H8.out.2.2.2.size)))))
      have s6 := H6.out.2.2.2.size
      clear hB9 t9 b9 e0 e1 e2
      go_wp2_with (first
        | (refine wpList_store_rc rfl (.tmp 4) (.tmp 63) rfl .zero none 0 0 rfl rfl Rc.zero_ok H10.out.1 ?_; intro w11 a11 o11 z11 g11; have H11 := Lib.hid (And.intro a11 (And.intro (H10.out.2.1.farRc H10.out.1 o11) (g11 w.heap.size w (Nat.le_refl _) H10.out.2.2))); clear a11 o11 z11 g11)
        | (refine wpList_store_rc rfl (.tmp 11) (.tmp 59) rfl y A9 n9 c9 rfl rfl HY.out H9.out.2.1 ?_; intro w10 a10 o10 z10 g10; have H10 := Lib.hid (And.intro (H9.out.1.same (o10 _ (Nat.ne_of_lt H6.out.1.lt))) (And.intro (H9.out.2.2.1.farRc H9.out.2.1 o10) (g10 w.heap.size w s6 H9.out.2.2.2))); clear a10 o10 z10 g10))
      exact bodyPost_ret (results_rc3 _ rfl rfl H11.out.1) rfl ⟨none, 0, 0, .iface T x, rfl, Bs.nil _, H11.out.2⟩
    · rw [if_neg hf]
      have hf0 : f.code = 0 := Decidable.not_not.1 hf
      clear hf
      go_enter Tryz.func53, Tryz.ntmps53
      go_wp2_with (refine wpList_alloc_rc rfl rfl ?_; intro w1 a1 b1 z1; have H1 := Lib.hid (And.intro a1 b1); clear a1 b1 z1)
      refine (K.out w1 (HB.out.1.later H1.out.2 (Nat.le_refl _))).mono ?_
      rintro e w2 ⟨rfl, b2⟩
      have H2 := Lib.hid (And.intro (H1.out.1.later b2 (Nat.le_refl _)) (H1.out.2.trans (b2.mono H1.out.2.size)))
      clear b2
      go_wp2_with (first
        | (refine wpList_store_qs rfl (.tmp 7) (.tmp 16) rfl ⟨name, kind, cls⟩ rfl rfl H3.out.2.1 ?_; intro w4 a4 o4 z4 g4; have H4 := Lib.hid (And.intro (H3.out.1.same (o4 _ (Nat.ne_of_lt H2.out.1.lt))) (And.intro a4 (g4 w.heap.size w H2.out.2.size H3.out.2.2))); clear a4 o4 z4 g4)
        | (refine wpList_alloc_qs rfl rfl ?_; intro w3 a3 b3 z3; have H3 := Lib.hid (And.intro (H2.out.1.later b3 (Nat.le_refl _)) (And.intro a3 (H2.out.2.trans (b3.mono H2.out.2.size)))); clear a3 b3 z3))
      refine (u32_there (HB.out.1.later H4.out.2.2 (Nat.le_refl _)) h47 (by omega)).mono ?_
      rintro e w5 ⟨rfl, b5⟩
      have H5 := Lib.hid (And.intro (H4.out.1.later b5 (Nat.le_refl _)) (And.intro (H4.out.2.1.later b5 (Nat.le_refl _)) (H4.out.2.2.trans (b5.mono H4.out.2.2.size))))
      clear b5
      go_wp2_with fail
      rw [show (next : Int) + 4 = ((next + 4 : Nat) : Int) by omega]
      refine (KD.out w5 H5.out.2.2).mono ?_
      rintro e w6 ⟨A6, c6, rfl, hB6, w6o, b6⟩
      have H6 := Lib.hid (And.intro (H5.out.1.later b6 (Nat.le_refl _)) (And.intro (H5.out.2.1.later b6 (Nat.le_refl _)) (And.intro (And.intro hB6 (show ∀ a, A6 = some a → a.block ≠ w.heap.size from fun a ha => Nat.ne_of_gt (Nat.lt_of_lt_of_le H5.out.1.lt (w6o a ha)))) (H5.out.2.2.trans (b6.mono H5.out.2.2.size)))))
      have e0 : w6.cell? ⟨w2.heap.size, 0, none⟩ = some (.string (mkS name)) := H6.out.2.1.cell 0
      have e1 : w6.cell? ⟨w2.heap.size, 1, none⟩ = some (.int .i64 kind) := H6.out.2.1.cell 1
      have e2 : w6.cell? ⟨w2.heap.size, 2, none⟩ = some (.int .i64 cls) := H6.out.2.1.cell 2
      clear b6 hB6 w6o
      go_wp2_with (first
        | (refine wpList_load_rc rfl (.tmp 11) rfl rfl H8.out.2.1 ?_)
        | (refine wpList_store_rc rfl (.tmp 11) (.tmp 51) rfl ⟨name, kind, cls, (num4 l next : Nat), false, zero16, [], []⟩ none 0 0 rfl rfl rfl H7.out.2.1 ?_; intro w8 a8 o8 z8 g8; have H8 := Lib.hid (And.intro (H7.out.1.same (o8 _ (Nat.ne_of_lt H6.out.1.lt))) (And.intro a8 (And.intro (g8 w6.heap.size w6 (Nat.le_refl _) H7.out.2.2) (g8 w.heap.size w H6.out.2.2.2.size (H6.out.2.2.2.trans (H7.out.2.2.mono H6.out.2.2.2.size)))))); clear a8 o8 z8 g8)
        | (refine wpList_alloc_rc rfl rfl ?_; intro w7 a7 b7 z7; have H7 := Lib.hid (And.intro (H6.out.1.later b7 (Nat.le_refl _)) (And.intro a7 b7)); clear a7 b7 z7)
        | (refine wpList_build_rc4 rfl (.tmp 45) (.tmp 47) (.tmp 49) (.tmp 50) rfl name kind cls (num4 l next : Nat) rfl rfl rfl rfl ?_))
      rw [show (next : Int) + 4 = ((next + 4 : Nat) : Int) by omega]
      refine (KW.out w8 A6 c6 H8.out.2.2.2 (H6.out.2.2.1.1.later H8.out.2.2.1 (Nat.le_refl _))).mono ?_
      rintro e w9 ⟨A9, n9, c9, v9, rfl, hB9, t9, b9⟩
      obtain rfl := t9.none' hf0
      have H9 := Lib.hid (And.intro (H8.out.1.later b9 (Nat.le_refl _)) (And.intro (H8.out.2.1.later b9 (Nat.le_refl _)) (And.intro hB9 (And.intro (H8.out.2.2.1.trans (b9.mono H8.out.2.2.1.size)) (H8.out.2.2.2.trans (b9.mono H8.out.2.2.2.size))))))
      have s6 := H6.out.2.2.2.size
      have hneq : w.heap.size ≠ w6.heap.size := Nat.ne_of_lt H6.out.1.lt
      clear hB9 t9 b9 e0 e1 e2
      go_wp2_with (first
        | (refine wpList_store_rc rfl (.tmp 4) (.tmp 65) rfl y A9 n9 c9 rfl rfl HY.out H10.out.1 ?_; intro w11 a11 o11 z11 g11; have H11 := Lib.hid (And.intro a11 (And.intro (H9.out.2.2.1.bs (H10.out.2.2.1.farBlk H6.out.2.2.1.2 o11)) (g11 w.heap.size w (Nat.le_refl _) H10.out.2.2.2))); clear a11 o11 z11 g11)
        | (refine wpList_load_rc rfl (.tmp 11) rfl rfl H10.out.2.1 ?_)
        | (refine wpList_store_rc rfl (.tmp 11) (.tmp 59) rfl y A9 n9 c9 rfl rfl HY.out H9.out.2.1 ?_; intro w10 a10 o10 z10 g10; have H10 := Lib.hid (And.intro (H9.out.1.same (o10 _ hneq)) (And.intro a10 (And.intro (H6.out.2.2.1.1.later (g10 w6.heap.size w6 (Nat.le_refl _) H9.out.2.2.2.1) (Nat.le_refl _)) (g10 w.heap.size w s6 H9.out.2.2.2.2)))); clear a10 o10 z10 g10))
      rw [show (next : Int) + 4 + 2 + (k : Int) = ((next + 6 + k : Nat) : Int) by omega]
      exact bodyPost_ret (results_rc3 _ rfl rfl H11.out.1) rfl ⟨A9, n9, c9, .nilIface, rfl, H11.out.2.1, Tells.nil _ _ _, H11.out.2.2⟩
  · generalize readQv l n at_ = q at h1 h3 ⊢
    obtain ⟨⟨name, kind, cls⟩, next, f⟩ := q
    dsimp only at h1 h3
    have K := Lib.hid h3
    clear h3
    unfold readRq
    dsimp only
    rw [if_pos h1]
    go_enter Tryz.func53, Tryz.ntmps53
    go_wp2_with (refine wpList_alloc_rc rfl rfl ?_; intro w1 a1 b1 z1; have H1 := Lib.hid (And.intro a1 b1); clear a1 b1 z1)
    refine (K.out w1 (HB.out.1.later H1.out.2 (Nat.le_refl _))).mono ?_
    rintro e w2 ⟨q2, z2, T, x, rfl, t2, b2⟩
    have H2 := Lib.hid (And.intro (H1.out.1.later b2 (Nat.le_refl _)) (And.intro t2 (H1.out.2.trans (b2.mono H1.out.2.size))))
    clear t2 b2
    go_wp2_with (first
      | (refine wpList_store_rc rfl (.tmp 4) (.tmp 21) rfl .zero none 0 0 rfl rfl Rc.zero_ok H4.out.1 ?_; intro w6 a6 o6 z6 g6; have H6 := Lib.hid (And.intro a6 (And.intro (H4.out.2.1.farRc H4.out.1 o6) (g6 w.heap.size w (Nat.le_refl _) H4.out.2.2))); clear a6 o6 z6 g6)
      | (refine wpList_store_qs rfl (.tmp 7) (.tmp 16) rfl q2 rfl rfl H3.out.2.1 ?_; intro w4 a4 o4 z4 g4; have H4 := Lib.hid (And.intro (H3.out.1.same (o4 _ (Nat.ne_of_lt H2.out.1.lt))) (And.intro (H3.out.2.2.1.farQs H3.out.2.1 o4) (g4 w.heap.size w H2.out.2.2.size H3.out.2.2.2))); clear a4 o4 z4 g4)
      | (refine wpList_alloc_qs rfl rfl ?_; intro w3 a3 b3 z3; have H3 := Lib.hid (And.intro (H2.out.1.later b3 (Nat.le_refl _)) (And.intro a3 (And.intro (H2.out.2.1.later b3 (Nat.le_refl _)) (H2.out.2.2.trans (b3.mono H2.out.2.2.size))))); clear a3 b3 z3))
    exact bodyPost_ret (results_rc3 _ rfl rfl H6.out.1) rfl ⟨none, 0, 0, .iface T x, rfl, Bs.nil _, H6.out.2⟩
end Go.Proofs.YtbikifaadpijnaaGreatDoor

namespace Go.Proofs.YtbikifaadpijnaaGreatDoor
open Go.RowKit
set_option maxRecDepth 100000

theorem ow0 (b : Nat) : Ow b none := fun _ h => by cases h
theorem DatOf.ow {A' : Option Addr} {n' c' : Nat} {d : List UInt8} {B : Option Addr} {k m : Nat} {x : List UInt8} (h : DatOf A' n' c' d B k m x) {b : Nat} (hB : Ow b B) : Ow b A' := by
  rcases h with ⟨_, rfl, _, _⟩ | ⟨_, rfl, _, _⟩
  · exact ow0 b
  · exact hB
/-- What ReadRecord hands back. -/
def ReadRO (r : Rr) (w : World) (e : Ending) (w' : World) : Prop := ∃ A' n' c' v, e = .returned (.tuple #[.agg (rcv r.r A' n' c'), .int .i64 r.next, v]) ∧ Bs w' A' n' c' r.r.data ∧ Ow w.heap.size A' ∧ Tells w' v r.f ∧ Below w.heap.size w w'
set_option maxHeartbeats 4000000 in
theorem readR_own {A : Option Addr} {n c : Nat} {l : List UInt8} {w : World} (hb : Bs w A n c l) (h47 : n ≤ 140737488350000) (at_ : Int) (ha : at_ ≤ 9223372036854775807) (hg : Handle w) : Calls Tryz.prog 53 #[.slice A n c, .int .i64 at_] w (ReadRO (readRv l n at_) w) := by
  unfold readRv ReadRO
  have hlen := hb.len
  have HB := Lib.hid (And.intro hb hg)
  clear hb hg
  rcases readQ_ways (A := A) (c := c) (l := l) h47 at_ ha with ⟨h1, h2, h3⟩ | ⟨h1, h3⟩
  · generalize readQv l n at_ = q at h1 h2 h3 ⊢
    obtain ⟨⟨name, kind, cls⟩, next, f⟩ := q
    dsimp only at h1 h2 h3
    have K := Lib.hid h3
    clear h3
    unfold readRq
    dsimp only
    rw [if_neg (by omega)]
    clear h1
    by_cases q4 : n < next + 4
    · rw [if_pos q4]
      go_enter Tryz.func53, Tryz.ntmps53
      go_wp2_with (refine wpList_alloc_rc rfl rfl ?_; intro w1 a1 b1 z1; have H1 := Lib.hid (And.intro a1 b1); clear a1 b1 z1)
      refine (K.out w1 (HB.out.1.later H1.out.2 (Nat.le_refl _))).mono ?_
      rintro e w2 ⟨rfl, b2⟩
      have H2 := Lib.hid (And.intro (H1.out.1.later b2 (Nat.le_refl _)) (H1.out.2.trans (b2.mono H1.out.2.size)))
      clear b2
      go_wp2_with (first
        | (refine wpList_store_qs rfl (.tmp 7) (.tmp 16) rfl ⟨name, kind, cls⟩ rfl rfl H3.out.2.1 ?_; intro w4 a4 o4 z4 g4; have H4 := Lib.hid (And.intro (H3.out.1.same (o4 _ (Nat.ne_of_lt H2.out.1.lt))) (g4 w.heap.size w H2.out.2.size H3.out.2.2)); clear a4 o4 z4 g4)
        | (refine wpList_alloc_qs rfl rfl ?_; intro w3 a3 b3 z3; have H3 := Lib.hid (And.intro (H2.out.1.later b3 (Nat.le_refl _)) (And.intro a3 (H2.out.2.trans (b3.mono H2.out.2.size)))); clear a3 b3 z3))
      refine (u32_not (HB.out.1.later H4.out.2 (Nat.le_refl _)) (by omega) q4).mono ?_
      rintro e w5 ⟨z5, T, x, rfl, t5, b5⟩
      have H5 := Lib.hid (And.intro (H4.out.1.later b5 (Nat.le_refl _)) (And.intro t5 (H4.out.2.trans (b5.mono H4.out.2.size))))
      clear t5 b5
      go_wp2_with (refine wpList_store_rc rfl (.tmp 4) (.tmp 31) rfl .zero none 0 0 rfl rfl Rc.zero_ok H5.out.1 ?_; intro w6 a6 o6 z6 g6; have H6 := Lib.hid (And.intro a6 (And.intro (H5.out.2.1.farRc H5.out.1 o6) (g6 w.heap.size w (Nat.le_refl _) H5.out.2.2))); clear a6 o6 z6 g6)
      exact bodyPost_ret (results_rc3 _ rfl rfl H6.out.1) rfl ⟨none, 0, 0, .iface T x, rfl, Bs.nil _, ow0 _, H6.out.2⟩
    rw [if_neg q4]
    by_cases q6 : n < next + 6 + (if n < next + 6 then 0 else num2 l (next + 4))
    · rw [if_pos q6]
      have q6' : n < next + 4 + 2 + (if n < next + 4 + 2 then 0 else num2 l (next + 4)) := by
        rw [show next + 4 + 2 = next + 6 by omega]; exact q6
      have KD := Lib.hid fun w1 (g : Below w.heap.size w w1) => dataAt_bad (HB.out.1.later g (Nat.le_refl _)) h47 (next + 4) (by omega) q6' (HB.out.2.later g (Nat.le_refl _))
      clear q6 q6'
      go_enter Tryz.func53, Tryz.ntmps53
      go_wp2_with (refine wpList_alloc_rc rfl rfl ?_; intro w1 a1 b1 z1; have H1 := Lib.hid (And.intro a1 b1); clear a1 b1 z1)
      refine (K.out w1 (HB.out.1.later H1.out.2 (Nat.le_refl _))).mono ?_
      rintro e w2 ⟨rfl, b2⟩
      have H2 := Lib.hid (And.intro (H1.out.1.later b2 (Nat.le_refl _)) (H1.out.2.trans (b2.mono H1.out.2.size)))
      clear b2
      go_wp2_with (first
        | (refine wpList_store_qs rfl (.tmp 7) (.tmp 16) rfl ⟨name, kind, cls⟩ rfl rfl H3.out.2.1 ?_; intro w4 a4 o4 z4 g4; have H4 := Lib.hid (And.intro (H3.out.1.same (o4 _ (Nat.ne_of_lt H2.out.1.lt))) (g4 w.heap.size w H2.out.2.size H3.out.2.2)); clear a4 o4 z4 g4)
        | (refine wpList_alloc_qs rfl rfl ?_; intro w3 a3 b3 z3; have H3 := Lib.hid (And.intro (H2.out.1.later b3 (Nat.le_refl _)) (And.intro a3 (H2.out.2.trans (b3.mono H2.out.2.size)))); clear a3 b3 z3))
      refine (u32_there (HB.out.1.later H4.out.2 (Nat.le_refl _)) h47 (by omega)).mono ?_
      rintro e w5 ⟨rfl, b5⟩
      have H5 := Lib.hid (And.intro (H4.out.1.later b5 (Nat.le_refl _)) (H4.out.2.trans (b5.mono H4.out.2.size)))
      clear b5
      go_wp2_with fail
      rw [show (next : Int) + 4 = ((next + 4 : Nat) : Int) by omega]
      refine (KD.out w5 H5.out.2).mono ?_
      rintro e w6 ⟨A6, n6, c6, T, x, rfl, t6, b6⟩
      have H6 := Lib.hid (And.intro (H5.out.1.later b6 (Nat.le_refl _)) (And.intro t6 (H5.out.2.trans (b6.mono H5.out.2.size))))
      clear t6 b6
      go_wp2_with (refine wpList_store_rc rfl (.tmp 4) (.tmp 42) rfl .zero none 0 0 rfl rfl Rc.zero_ok H6.out.1 ?_; intro w7 a7 o7 z7 g7; have H7 := Lib.hid (And.intro a7 (And.intro (H6.out.2.1.farRc H6.out.1 o7) (g7 w.heap.size w (Nat.le_refl _) H6.out.2.2))); clear a7 o7 z7 g7)
      exact bodyPost_ret (results_rc3 _ rfl rfl H7.out.1) rfl ⟨none, 0, 0, .iface T x, rfl, Bs.nil _, ow0 _, H7.out.2⟩
    rw [if_neg q6]
    have q6a : ¬ n < next + 6 := fun h => q6 (by omega)
    rw [if_neg q6a] at q6
    obtain ⟨k, hk⟩ : ∃ k, num2 l (next + 4) = k := ⟨_, rfl⟩
    have hk2 : k < 65536 := by rw [← hk]; exact num2_lt _ _
    have KD := Lib.hid fun w1 (g : Below w.heap.size w w1) => dataAt_ok (HB.out.1.later g (Nat.le_refl _)) h47 (next + 4) k hk (by omega)
    rw [hk] at q6 ⊢
    have hlk : ((l.drop (next + 4 + 2)).take k).length = k := by rw [List.length_take, List.length_drop]; omega
    have KW := Lib.hid fun w1 B m (g : Below w.heap.size w w1) hB => with_any (w := w1) (B := B) (m := m) (HB.out.1.later g (Nat.le_refl _)) h47 ⟨name, kind, cls⟩ (num4 l next) (next + 4) k (by omega) hk2 hB
    have hok := dataV_ok l n ⟨name, kind, cls⟩ (num4 l next) (next + 4) k hlk.symm
    unfold WithR at KW
    generalize dataV l n ((⟨name, kind, cls⟩ : Qs).asRc (num4 l next)) (next + 4) k = y at KW hok ⊢
    obtain ⟨y, f⟩ := y
    dsimp only at KW hok ⊢
    have HY := Lib.hid hok
    clear hk hok
    by_cases hf : f.code ≠ 0
    · rw [if_pos hf]
      go_enter Tryz.func53, Tryz.ntmps53
      go_wp2_with (refine wpList_alloc_rc rfl rfl ?_; intro w1 a1 b1 z1; have H1 := Lib.hid (And.intro a1 b1); clear a1 b1 z1)
      refine (K.out w1 (HB.out.1.later H1.out.2 (Nat.le_refl _))).mono ?_
      rintro e w2 ⟨rfl, b2⟩
      have H2 := Lib.hid (And.intro (H1.out.1.later b2 (Nat.le_refl _)) (H1.out.2.trans (b2.mono H1.out.2.size)))
      clear b2
      go_wp2_with (first
        | (refine wpList_store_qs rfl (.tmp 7) (.tmp 16) rfl ⟨name, kind, cls⟩ rfl rfl H3.out.2.1 ?_; intro w4 a4 o4 z4 g4; have H4 := Lib.hid (And.intro (H3.out.1.same (o4 _ (Nat.ne_of_lt H2.out.1.lt))) (And.intro a4 (g4 w.heap.size w H2.out.2.size H3.out.2.2))); clear a4 o4 z4 g4)
        | (refine wpList_alloc_qs rfl rfl ?_; intro w3 a3 b3 z3; have H3 := Lib.hid (And.intro (H2.out.1.later b3 (Nat.le_refl _)) (And.intro a3 (H2.out.2.trans (b3.mono H2.out.2.size)))); clear a3 b3 z3))
      refine (u32_there (HB.out.1.later H4.out.2.2 (Nat.le_refl _)) h47 (by omega)).mono ?_
      rintro e w5 ⟨rfl, b5⟩
      have H5 := Lib.hid (And.intro (H4.out.1.later b5 (Nat.le_refl _)) (And.intro (H4.out.2.1.later b5 (Nat.le_refl _)) (H4.out.2.2.trans (b5.mono H4.out.2.2.size))))
      clear b5
      go_wp2_with fail
      rw [show (next : Int) + 4 = ((next + 4 : Nat) : Int) by omega]
      refine (KD.out w5 H5.out.2.2).mono ?_
      rintro e w6 ⟨A6, c6, rfl, hB6, w6o, b6⟩
      have H6 := Lib.hid (And.intro (H5.out.1.later b6 (Nat.le_refl _)) (And.intro (H5.out.2.1.later b6 (Nat.le_refl _)) (And.intro (And.intro hB6 (show ∀ a, A6 = some a → a.block ≠ w.heap.size from fun a ha => Nat.ne_of_gt (Nat.lt_of_lt_of_le H5.out.1.lt (w6o a ha)))) (H5.out.2.2.trans (b6.mono H5.out.2.2.size)))))
      have HO6 := Lib.hid (show Ow w.heap.size A6 from fun a ha => Nat.le_trans H5.out.2.2.size (w6o a ha))
      have e0 : w6.cell? ⟨w2.heap.size, 0, none⟩ = some (.string (mkS name)) := H6.out.2.1.cell 0
      have e1 : w6.cell? ⟨w2.heap.size, 1, none⟩ = some (.int .i64 kind) := H6.out.2.1.cell 1
      have e2 : w6.cell? ⟨w2.heap.size, 2, none⟩ = some (.int .i64 cls) := H6.out.2.1.cell 2
      clear b6 hB6 w6o
      go_wp2_with (first
        | (refine wpList_load_rc rfl (.tmp 11) rfl rfl H8.out.2.1 ?_)
        | (refine wpList_store_rc rfl (.tmp 11) (.tmp 51) rfl ⟨name, kind, cls, (num4 l next : Nat), false, zero16, [], []⟩ none 0 0 rfl rfl rfl H7.out.2.1 ?_; intro w8 a8 o8 z8 g8; have H8 := Lib.hid (And.intro (H7.out.1.same (o8 _ (Nat.ne_of_lt H6.out.1.lt))) (And.intro a8 (And.intro (g8 w6.heap.size w6 (Nat.le_refl _) H7.out.2.2) (g8 w.heap.size w H6.out.2.2.2.size (H6.out.2.2.2.trans (H7.out.2.2.mono H6.out.2.2.2.size)))))); clear a8 o8 z8 g8)
        | (refine wpList_alloc_rc rfl rfl ?_; intro w7 a7 b7 z7; have H7 := Lib.hid (And.intro (H6.out.1.later b7 (Nat.le_refl _)) (And.intro a7 b7)); clear a7 b7 z7)
        | (refine wpList_build_rc4 rfl (.tmp 45) (.tmp 47) (.tmp 49) (.tmp 50) rfl name kind cls (num4 l next : Nat) rfl rfl rfl rfl ?_))
      rw [show (next : Int) + 4 = ((next + 4 : Nat) : Int) by omega]
      refine (KW.out w8 A6 c6 H8.out.2.2.2 (H6.out.2.2.1.1.later H8.out.2.2.1 (Nat.le_refl _))).mono ?_
      rintro e w9 ⟨A9, n9, c9, v9, rfl, hB9, t9, b9⟩
      obtain ⟨T, x, rfl⟩ := t9.held' hf
      have H9 := Lib.hid (And.intro (H8.out.1.later b9 (Nat.le_refl _)) (And.intro (H8.out.2.1.later b9 (Nat.le_refl _)) (And.intro t9 (H8.out.2.2.2.trans (b9.mono H8.out.2.2.2.size)))))
      have s6 := H6.out.2.2.2.size
      clear hB9 t9 b9 e0 e1 e2
      go_wp2_with (first
        | (refine wpList_store_rc rfl (.tmp 4) (.tmp 63) rfl .zero none 0 0 rfl rfl Rc.zero_ok H10.out.1 ?_; intro w11 a11 o11 z11 g11; have H11 := Lib.hid (And.intro a11 (And.intro (H10.out.2.1.farRc H10.out.1 o11) (g11 w.heap.size w (Nat.le_refl _) H10.out.2.2))); clear a11 o11 z11 g11)
        | (refine wpList_store_rc rfl (.tmp 11) (.tmp 59) rfl y A9 n9 c9 rfl rfl HY.out H9.out.2.1 ?_; intro w10 a10 o10 z10 g10; have H10 := Lib.hid (And.intro (H9.out.1.same (o10 _ (Nat.ne_of_lt H6.out.1.lt))) (And.intro (H9.out.2.2.1.farRc H9.out.2.1 o10) (g10 w.heap.size w s6 H9.out.2.2.2))); clear a10 o10 z10 g10))
      exact bodyPost_ret (results_rc3 _ rfl rfl H11.out.1) rfl ⟨none, 0, 0, .iface T x, rfl, Bs.nil _, ow0 _, H11.out.2⟩
    · rw [if_neg hf]
      have hf0 : f.code = 0 := Decidable.not_not.1 hf
      clear hf
      go_enter Tryz.func53, Tryz.ntmps53
      go_wp2_with (refine wpList_alloc_rc rfl rfl ?_; intro w1 a1 b1 z1; have H1 := Lib.hid (And.intro a1 b1); clear a1 b1 z1)
      refine (K.out w1 (HB.out.1.later H1.out.2 (Nat.le_refl _))).mono ?_
      rintro e w2 ⟨rfl, b2⟩
      have H2 := Lib.hid (And.intro (H1.out.1.later b2 (Nat.le_refl _)) (H1.out.2.trans (b2.mono H1.out.2.size)))
      clear b2
      go_wp2_with (first
        | (refine wpList_store_qs rfl (.tmp 7) (.tmp 16) rfl ⟨name, kind, cls⟩ rfl rfl H3.out.2.1 ?_; intro w4 a4 o4 z4 g4; have H4 := Lib.hid (And.intro (H3.out.1.same (o4 _ (Nat.ne_of_lt H2.out.1.lt))) (And.intro a4 (g4 w.heap.size w H2.out.2.size H3.out.2.2))); clear a4 o4 z4 g4)
        | (refine wpList_alloc_qs rfl rfl ?_; intro w3 a3 b3 z3; have H3 := Lib.hid (And.intro (H2.out.1.later b3 (Nat.le_refl _)) (And.intro a3 (H2.out.2.trans (b3.mono H2.out.2.size)))); clear a3 b3 z3))
      refine (u32_there (HB.out.1.later H4.out.2.2 (Nat.le_refl _)) h47 (by omega)).mono ?_
      rintro e w5 ⟨rfl, b5⟩
      have H5 := Lib.hid (And.intro (H4.out.1.later b5 (Nat.le_refl _)) (And.intro (H4.out.2.1.later b5 (Nat.le_refl _)) (H4.out.2.2.trans (b5.mono H4.out.2.2.size))))
      clear b5
      go_wp2_with fail
      rw [show (next : Int) + 4 = ((next + 4 : Nat) : Int) by omega]
      refine (KD.out w5 H5.out.2.2).mono ?_
      rintro e w6 ⟨A6, c6, rfl, hB6, w6o, b6⟩
      have H6 := Lib.hid (And.intro (H5.out.1.later b6 (Nat.le_refl _)) (And.intro (H5.out.2.1.later b6 (Nat.le_refl _)) (And.intro (And.intro hB6 (show ∀ a, A6 = some a → a.block ≠ w.heap.size from fun a ha => Nat.ne_of_gt (Nat.lt_of_lt_of_le H5.out.1.lt (w6o a ha)))) (H5.out.2.2.trans (b6.mono H5.out.2.2.size)))))
      have HO6 := Lib.hid (show Ow w.heap.size A6 from fun a ha => Nat.le_trans H5.out.2.2.size (w6o a ha))
      have e0 : w6.cell? ⟨w2.heap.size, 0, none⟩ = some (.string (mkS name)) := H6.out.2.1.cell 0
      have e1 : w6.cell? ⟨w2.heap.size, 1, none⟩ = some (.int .i64 kind) := H6.out.2.1.cell 1
      have e2 : w6.cell? ⟨w2.heap.size, 2, none⟩ = some (.int .i64 cls) := H6.out.2.1.cell 2
      clear b6 hB6 w6o
      go_wp2_with (first
        | (refine wpList_load_rc rfl (.tmp 11) rfl rfl H8.out.2.1 ?_)
        | (refine wpList_store_rc rfl (.tmp 11) (.tmp 51) rfl ⟨name, kind, cls, (num4 l next : Nat), false, zero16, [], []⟩ none 0 0 rfl rfl rfl H7.out.2.1 ?_; intro w8 a8 o8 z8 g8; have H8 := Lib.hid (And.intro (H7.out.1.same (o8 _ (Nat.ne_of_lt H6.out.1.lt))) (And.intro a8 (And.intro (g8 w6.heap.size w6 (Nat.le_refl _) H7.out.2.2) (g8 w.heap.size w H6.out.2.2.2.size (H6.out.2.2.2.trans (H7.out.2.2.mono H6.out.2.2.2.size)))))); clear a8 o8 z8 g8)
        | (refine wpList_alloc_rc rfl rfl ?_; intro w7 a7 b7 z7; have H7 := Lib.hid (And.intro (H6.out.1.later b7 (Nat.le_refl _)) (And.intro a7 b7)); clear a7 b7 z7)
        | (refine wpList_build_rc4 rfl (.tmp 45) (.tmp 47) (.tmp 49) (.tmp 50) rfl name kind cls (num4 l next : Nat) rfl rfl rfl rfl ?_))
      rw [show (next : Int) + 4 = ((next + 4 : Nat) : Int) by omega]
      refine (KW.out w8 A6 c6 H8.out.2.2.2 (H6.out.2.2.1.1.later H8.out.2.2.1 (Nat.le_refl _))).mono ?_
      rintro e w9 ⟨A9, n9, c9, v9, rfl, hB9, t9, b9⟩
      obtain rfl := t9.none' hf0
      have H9 := Lib.hid (And.intro (H8.out.1.later b9 (Nat.le_refl _)) (And.intro (H8.out.2.1.later b9 (Nat.le_refl _)) (And.intro hB9 (And.intro (H8.out.2.2.1.trans (b9.mono H8.out.2.2.1.size)) (H8.out.2.2.2.trans (b9.mono H8.out.2.2.2.size))))))
      have s6 := H6.out.2.2.2.size
      have hneq : w.heap.size ≠ w6.heap.size := Nat.ne_of_lt H6.out.1.lt
      clear hB9 t9 b9 e0 e1 e2
      go_wp2_with (first
        | (refine wpList_store_rc rfl (.tmp 4) (.tmp 65) rfl y A9 n9 c9 rfl rfl HY.out H10.out.1 ?_; intro w11 a11 o11 z11 g11; have H11 := Lib.hid (And.intro a11 (And.intro (H9.out.2.2.1.bs (H10.out.2.2.1.farBlk H6.out.2.2.1.2 o11)) (g11 w.heap.size w (Nat.le_refl _) H10.out.2.2.2))); clear a11 o11 z11 g11)
        | (refine wpList_load_rc rfl (.tmp 11) rfl rfl H10.out.2.1 ?_)
        | (refine wpList_store_rc rfl (.tmp 11) (.tmp 59) rfl y A9 n9 c9 rfl rfl HY.out H9.out.2.1 ?_; intro w10 a10 o10 z10 g10; have H10 := Lib.hid (And.intro (H9.out.1.same (o10 _ hneq)) (And.intro a10 (And.intro (H6.out.2.2.1.1.later (g10 w6.heap.size w6 (Nat.le_refl _) H9.out.2.2.2.1) (Nat.le_refl _)) (g10 w.heap.size w s6 H9.out.2.2.2.2)))); clear a10 o10 z10 g10))
      rw [show (next : Int) + 4 + 2 + (k : Int) = ((next + 6 + k : Nat) : Int) by omega]
      exact bodyPost_ret (results_rc3 _ rfl rfl H11.out.1) rfl ⟨A9, n9, c9, .nilIface, rfl, H11.out.2.1, H9.out.2.2.1.ow HO6.out, Tells.nil _ _ _, H11.out.2.2⟩
  · generalize readQv l n at_ = q at h1 h3 ⊢
    obtain ⟨⟨name, kind, cls⟩, next, f⟩ := q
    dsimp only at h1 h3
    have K := Lib.hid h3
    clear h3
    unfold readRq
    dsimp only
    rw [if_pos h1]
    go_enter Tryz.func53, Tryz.ntmps53
    go_wp2_with (refine wpList_alloc_rc rfl rfl ?_; intro w1 a1 b1 z1; have H1 := Lib.hid (And.intro a1 b1); clear a1 b1 z1)
    refine (K.out w1 (HB.out.1.later H1.out.2 (Nat.le_refl _))).mono ?_
    rintro e w2 ⟨q2, z2, T, x, rfl, t2, b2⟩
    have H2 := Lib.hid (And.intro (H1.out.1.later b2 (Nat.le_refl _)) (And.intro t2 (H1.out.2.trans (b2.mono H1.out.2.size))))
    clear t2 b2
    go_wp2_with (first
      | (refine wpList_store_rc rfl (.tmp 4) (.tmp 21) rfl .zero none 0 0 rfl rfl Rc.zero_ok H4.out.1 ?_; intro w6 a6 o6 z6 g6; have H6 := Lib.hid (And.intro a6 (And.intro (H4.out.2.1.farRc H4.out.1 o6) (g6 w.heap.size w (Nat.le_refl _) H4.out.2.2))); clear a6 o6 z6 g6)
      | (refine wpList_store_qs rfl (.tmp 7) (.tmp 16) rfl q2 rfl rfl H3.out.2.1 ?_; intro w4 a4 o4 z4 g4; have H4 := Lib.hid (And.intro (H3.out.1.same (o4 _ (Nat.ne_of_lt H2.out.1.lt))) (And.intro (H3.out.2.2.1.farQs H3.out.2.1 o4) (g4 w.heap.size w H2.out.2.2.size H3.out.2.2.2))); clear a4 o4 z4 g4)
      | (refine wpList_alloc_qs rfl rfl ?_; intro w3 a3 b3 z3; have H3 := Lib.hid (And.intro (H2.out.1.later b3 (Nat.le_refl _)) (And.intro a3 (And.intro (H2.out.2.1.later b3 (Nat.le_refl _)) (H2.out.2.2.trans (b3.mono H2.out.2.2.size))))); clear a3 b3 z3))
    exact bodyPost_ret (results_rc3 _ rfl rfl H6.out.1) rfl ⟨none, 0, 0, .iface T x, rfl, Bs.nil _, ow0 _, H6.out.2⟩
end Go.Proofs.YtbikifaadpijnaaGreatDoor

namespace Go.Proofs.YtbikifaadpijnaaGreatDoor
open Go.RowKit
set_option maxRecDepth 100000

theorem hd_set {u : Nat → Int} {i : Nat} (hi : i < 6) (v : Int) : (hdv u).setIfInBounds i (.int .i64 v) = hdv (fun k => if k = i then v else u k) := by
  match i, hi with
  | 0, _ => rfl
  | 1, _ => rfl
  | 2, _ => rfl
  | 3, _ => rfl
  | 4, _ => rfl
  | 5, _ => rfl
theorem hd_get {u : Nat → Int} {i : Nat} (hi : i < 6) : (hdv u)[i]? = some (.int .i64 (u i)) := by
  match i, hi with
  | 0, _ => rfl
  | 1, _ => rfl
  | 2, _ => rfl
  | 3, _ => rfl
  | 4, _ => rfl
  | 5, _ => rfl
theorem HxBox.at_ {w : World} {g : Nat} {u : Nat → Int} (H : HxBox w g u) {i : Nat} (hi : i < 6) : w.cell? ⟨g, i, none⟩ = some (.int .i64 (u i)) := by
  rw [H.cell i, hd_get hi]
theorem HxBox.put {w : World} {g : Nat} {u : Nat → Int} (H : HxBox w g u) {i : Nat} (hi : i < 6) (v : Int) : HxBox (w.setCell ⟨g, i, none⟩ (.int .i64 v)) g (fun k => if k = i then v else u k) := by
  have e : w.setCell ⟨g, i, none⟩ (.int .i64 v) = w.setRow g (hdv (fun k => if k = i then v else u k)) := by
    rw [setCell_eq_setRow w g i _ _ _ (.int .i64 v) H, hd_set hi]
  rw [e]
  exact setRow_heap w g _ _ _ _ H
theorem and_low {v j : Nat} (h : v < 65536) (hj : j ≤ 15) : bits .and .i64 (v : Int) ((2 ^ j - 1 : Nat) : Int) = ((v % 2 ^ j : Nat) : Int) := by
  have hm : 2 ^ j - 1 < 65536 := by
    have := Nat.pow_le_pow_right (show 0 < 2 by decide) hj
    have h15 : 2 ^ 15 = 32768 := rfl
    omega
  show IntKind.i64.wrap ((BitVec.ofInt 64 (v : Int) &&& BitVec.ofInt 64 ((2 ^ j - 1 : Nat) : Int)).toNat : Int) = _
  rw [BitVec.toNat_and, BitVec.ofInt_natCast, BitVec.ofInt_natCast, BitVec.toNat_ofNat, BitVec.toNat_ofNat, Nat.mod_eq_of_lt (by omega), Nat.mod_eq_of_lt (by omega), Nat.and_two_pow_sub_one_eq_mod, IntKind.wrap_i64]
  have := Nat.mod_le v (2 ^ j)
  omega
theorem within_any (v m : Int) (w : World) : Calls Tryz.prog 57 #[.int .i64 v, .int .i64 m] w fun e w' => e = .returned (.bool (decide (0 ≤ v ∧ v ≤ m))) ∧ w = w' := by
  by_cases h0 : 0 ≤ v
  · by_cases h1 : v ≤ m
    · rw [decide_eq_true (⟨h0, h1⟩ : 0 ≤ v ∧ v ≤ m)]
      go_enter Tryz.func57, Tryz.ntmps57
      go_wp2
      go_ret
      exact ⟨rfl, rfl⟩
    · rw [decide_eq_false (show ¬ (0 ≤ v ∧ v ≤ m) from fun h => h1 h.2)]
      go_enter Tryz.func57, Tryz.ntmps57
      go_wp2
      go_ret
      exact ⟨rfl, rfl⟩
  · rw [decide_eq_false (show ¬ (0 ≤ v ∧ v ≤ m) from fun h => h0 h.1)]
    go_enter Tryz.func57, Tryz.ntmps57
    go_wp2
    go_ret
    exact ⟨rfl, rfl⟩
set_option maxHeartbeats 2000000 in
theorem rightM_any (mh : Mh) (sq sa su se : Sl) (w : World) : Calls Tryz.prog 27 #[.agg (msv mh sq sa su se)] w fun e w' => e = .returned (.bool (decide (rightH mh))) ∧ Below w.heap.size w w' := by
  have a1 := MsBox.new w mh sq sa su se
  have b1 : Below w.heap.size w (w.alloc (.cells (msv mh sq sa su se) 26)) := (Below.refl _ _).alloc (Nat.le_refl _) _
  obtain ⟨W, hW⟩ : ∃ W, w.alloc (.cells (msv mh sq sa su se) 26) = W := ⟨_, rfl⟩
  rw [hW] at a1 b1
  have HW := Lib.hid hW
  have c0 : W.cell? ⟨w.heap.size, 0, none⟩ = some (.int .i64 mh.id) := a1.cell 0
  have c2 : W.cell? ⟨w.heap.size, 2, none⟩ = some (.int .i64 mh.opcode) := a1.cell 2
  have c3 : W.cell? ⟨w.heap.size, 3, none⟩ = some (.int .i64 mh.code) := a1.cell 3
  have c4 : W.cell? ⟨w.heap.size, 4, none⟩ = some (.int .i64 mh.flags) := a1.cell 4
  have HA := Lib.hid (And.intro a1 b1)
  clear a1 b1 hW
  by_cases h0 : 0 ≤ mh.id ∧ mh.id ≤ 65535
  case neg =>
    --<< a
    rw [decide_eq_false (show ¬ rightH mh from fun h => h0 h.1)]
    go_enter Tryz.func27, Tryz.ntmps27
    go_wp2_with (rw [HW.out])
    refine (within_any _ _ _).mono ?_
    rintro e w1 ⟨rfl, rfl⟩
    rw [decide_eq_false h0]
    go_wp2_with fail
    go_ret
    exact ⟨rfl, HA.out.2⟩
    -->>
  by_cases h1 : 0 ≤ mh.opcode ∧ mh.opcode ≤ 15
  case neg =>
    --<< b
    rw [decide_eq_false (show ¬ rightH mh from fun h => h1 h.2.1)]
    go_enter Tryz.func27, Tryz.ntmps27
    go_wp2_with (rw [HW.out])
    refine (within_any _ _ _).mono ?_
    rintro e w1 ⟨rfl, rfl⟩
    rw [decide_eq_true h0]
    go_wp2_with fail
    refine (within_any _ _ _).mono ?_
    rintro e w1 ⟨rfl, rfl⟩
    rw [decide_eq_false h1]
    go_wp2_with fail
    go_ret
    exact ⟨rfl, HA.out.2⟩
    -->>
  by_cases h2 : 0 ≤ mh.flags ∧ mh.flags ≤ 127
  case neg =>
    --<< c
    rw [decide_eq_false (show ¬ rightH mh from fun h => h2 h.2.2.1)]
    go_enter Tryz.func27, Tryz.ntmps27
    go_wp2_with (rw [HW.out])
    refine (within_any _ _ _).mono ?_
    rintro e w1 ⟨rfl, rfl⟩
    rw [decide_eq_true h0]
    go_wp2_with fail
    refine (within_any _ _ _).mono ?_
    rintro e w1 ⟨rfl, rfl⟩
    rw [decide_eq_true h1]
    go_wp2_with fail
    refine (within_any _ _ _).mono ?_
    rintro e w1 ⟨rfl, rfl⟩
    rw [decide_eq_false h2]
    go_wp2_with fail
    go_ret
    exact ⟨rfl, HA.out.2⟩
    -->>
  by_cases h3 : 0 ≤ mh.code ∧ mh.code ≤ 15
  case neg =>
    --<< d
    rw [decide_eq_false (show ¬ rightH mh from fun h => h3 h.2.2.2)]
    go_enter Tryz.func27, Tryz.ntmps27
    go_wp2_with (rw [HW.out])
    refine (within_any _ _ _).mono ?_
    rintro e w1 ⟨rfl, rfl⟩
    rw [decide_eq_true h0]
    go_wp2_with fail
    refine (within_any _ _ _).mono ?_
    rintro e w1 ⟨rfl, rfl⟩
    rw [decide_eq_true h1]
    go_wp2_with fail
    refine (within_any _ _ _).mono ?_
    rintro e w1 ⟨rfl, rfl⟩
    rw [decide_eq_true h2]
    go_wp2_with fail
    refine (within_any _ _ _).mono ?_
    rintro e w1 ⟨rfl, rfl⟩
    rw [decide_eq_false h3]
    go_wp2_with fail
    go_ret
    exact ⟨rfl, HA.out.2⟩
    -->>
  --<< f
  rw [decide_eq_true (show rightH mh from ⟨h0, h1, h2, h3⟩)]
  go_enter Tryz.func27, Tryz.ntmps27
  go_wp2_with (rw [HW.out])
  refine (within_any _ _ _).mono ?_
  rintro e w1 ⟨rfl, rfl⟩
  rw [decide_eq_true h0]
  go_wp2_with fail
  refine (within_any _ _ _).mono ?_
  rintro e w1 ⟨rfl, rfl⟩
  rw [decide_eq_true h1]
  go_wp2_with fail
  refine (within_any _ _ _).mono ?_
  rintro e w1 ⟨rfl, rfl⟩
  rw [decide_eq_true h2]
  go_wp2_with fail
  refine (within_any _ _ _).mono ?_
  rintro e w1 ⟨rfl, rfl⟩
  rw [decide_eq_true h3]
  go_wp2_with fail
  go_ret
  exact ⟨rfl, HA.out.2⟩
  -->>
set_option maxHeartbeats 2000000 in
theorem together_any {g : Nat} {u : Nat → Int} {w : World} (H : HxBox w g u) (h0 : ∀ i, 0 ≤ u i) (h1 : ∀ i, u i ≤ 1000000000000000000) : Calls Tryz.prog 19 #[.slice (some ⟨g, 2, none⟩) 4 4] w fun e w' => e = .returned (.int .i64 (u 2 + u 3 + u 4 + u 5)) ∧ w = w' := by
  --<< e
  have c2 := H.at_ (i := 2) (by decide)
  have c3 := H.at_ (i := 3) (by decide)
  have c4 := H.at_ (i := 4) (by decide)
  have c5 := H.at_ (i := 5) (by decide)
  have p2 := h0 2
  have p3 := h0 3
  have p4 := h0 4
  have p5 := h0 5
  have q2 := h1 2
  have q3 := h1 3
  have q4 := h1 4
  have q5 := h1 5
  clear h0 h1 H
  go_enter Tryz.func19, Tryz.ntmps19
  go_wp2_with fail
  go_loopw [3, 8] (fun s i wr => w = wr ∧ ((i = .int .i64 0 ∧ s = .int .i64 0) ∨ (i = .int .i64 1 ∧ s = .int .i64 (u 2)) ∨ (i = .int .i64 2 ∧ s = .int .i64 (u 2 + u 3)) ∨ (i = .int .i64 3 ∧ s = .int .i64 (u 2 + u 3 + u 4)) ∨ (i = .int .i64 4 ∧ s = .int .i64 (u 2 + u 3 + u 4 + u 5)))) (fun _ i _ => 4 - (intOf i).toNat)
  case atStart => exact ⟨rfl, .inl ⟨rfl, rfl⟩⟩
  case round =>
    obtain ⟨rfl, ⟨rfl, rfl⟩ | ⟨rfl, rfl⟩ | ⟨rfl, rfl⟩ | ⟨rfl, rfl⟩ | ⟨rfl, rfl⟩⟩ := hrel
    · go_wp2_with fail
      go_roundw
      case rel => exact ⟨trivial, .inr (.inl ⟨rfl, by go_num⟩)⟩
      case measure => simp [intOf]
    · go_wp2_with fail
      go_roundw
      case rel => exact ⟨trivial, .inr (.inr (.inl ⟨rfl, by go_num⟩))⟩
      case measure => simp [intOf]
    · go_wp2_with fail
      go_roundw
      case rel => exact ⟨trivial, .inr (.inr (.inr (.inl ⟨rfl, by go_num⟩)))⟩
      case measure => simp [intOf]
    · go_wp2_with fail
      go_roundw
      case rel => exact ⟨trivial, .inr (.inr (.inr (.inr ⟨rfl, by go_num⟩)))⟩
      case measure => simp [intOf]
    · go_wp2_with fail
      go_ret
      exact ⟨rfl, rfl⟩
  -->>
set_option maxHeartbeats 2000000 in
theorem begun_any (u : Nat → Int) (x0 x1 : Nat) (h0 : u 0 = x0) (h1 : u 1 = x1) (_ : x0 < 65536) (hx1 : x1 < 65536) (w : World) : Calls Tryz.prog 49 #[.agg (hdv u)] w fun e w' => e = .returned (.agg (msv (begunV x0 x1) .zero .zero .zero .zero)) ∧ Below w.heap.size w w' := by
  have a1 := HxBox.new w u
  have b1 : Below w.heap.size w (w.alloc (.cells (hdv u) 61)) := (Below.refl _ _).alloc (Nat.le_refl _) _
  obtain ⟨W, hW⟩ : ∃ W, w.alloc (.cells (hdv u) 61) = W := ⟨_, rfl⟩
  rw [hW] at a1 b1
  have HW := Lib.hid hW
  have c0 := a1.at_ (i := 0) (by decide)
  have c1 := a1.at_ (i := 1) (by decide)
  rw [h0] at c0
  rw [h1] at c1
  have hb : ((u 1 / 32768 == 1) : Bool) = decide (x1 / 32768 = 1) := by
    rw [h1, show (x1 : Int) / 32768 = ((x1 / 32768 : Nat) : Int) from rfl]
    by_cases h : x1 / 32768 = 1
    · rw [h]; rfl
    · rw [decide_eq_false h]
      exact beq_eq_false_iff_ne.2 (by omega)
  have hval : Value.agg #[.int .i64 (u 0), .bool (u 1 / 32768 == 1), .int .i64 (bits .and .i64 (u 1 / 2048) 15), .int .i64 (bits .and .i64 (u 1) 15), .int .i64 (bits .and .i64 (u 1 / 16) 127), .slice none 0 0, .slice none 0 0, .slice none 0 0, .slice none 0 0] = .agg (msv (begunV x0 x1) .zero .zero .zero .zero) := by
    rw [hb, h0, h1, show (x1 : Int) / 2048 = ((x1 / 2048 : Nat) : Int) from rfl, show (x1 : Int) / 16 = ((x1 / 16 : Nat) : Int) from rfl]
    have e1 := and_low (v := x1 / 2048) (j := 4) (by omega) (by decide)
    have e2 := and_low (v := x1) (j := 4) (by omega) (by decide)
    have e3 := and_low (v := x1 / 16) (j := 7) (by omega) (by decide)
    rw [show ((2 ^ 4 - 1 : Nat) : Int) = 15 from rfl] at e1 e2
    rw [show ((2 ^ 7 - 1 : Nat) : Int) = 127 from rfl] at e3
    rw [e1, e2, e3]
    rfl
  have p1 : 0 ≤ u 1 ∧ u 1 < 65536 := by omega
  have HA := Lib.hid (And.intro a1 b1)
  have HV := Lib.hid hval
  clear a1 b1 hW h0 h1 hb hval c0 c1
  --<< g
  go_enter Tryz.func49, Tryz.ntmps49
  go_wp2_with (first
    | (refine wpList_store_ms rfl (.tmp 2) (.tmp 19) rfl (begunV x0 x1) .zero .zero .zero .zero rfl HV.out H2.out.2.1 ?_; intro w3 a3 o3 z3 g3; have H3 := Lib.hid (And.intro a3 (g3 w.heap.size w HA.out.2.size H2.out.2.2)); clear a3 o3 z3 g3)
    | (rw [HW.out]; refine wpList_alloc_ms rfl rfl ?_; intro w2 a2 b2 z2; have H2 := Lib.hid (And.intro (HA.out.1.later b2 (Nat.le_refl _)) (And.intro a2 (HA.out.2.trans (b2.mono HA.out.2.size)))); have d0 := H2.out.1.at_ (i := 0) (by decide); have d1 := H2.out.1.at_ (i := 1) (by decide); clear a2 b2 z2))
  exact bodyPost_ret (results_cell_row rfl _ _ W.heap.size 26 _ (0, 0) _ rfl H3.out.1 Tryz.underlying26 rfl (ms_size _ _ _ _ _)) rfl ⟨rfl, H3.out.2⟩
  -->>
/-- The numbers that a message is written with. -/
def hdU (id b q a u e : Int) (i : Nat) : Int := match i with | 0 => id | 1 => b | 2 => q | 3 => a | 4 => u | _ => e
theorem or_off {a b k : Nat} (h : b < 2 ^ k) : a * 2 ^ k ||| b = a * 2 ^ k + b := by
  rw [← Nat.shiftLeft_eq, Nat.shiftLeft_add_eq_or_of_lt h]
def rawB (mh : Mh) : Int := bits .or .i64 (bits .or .i64 (wrap64 (mh.opcode * 2048)) (wrap64 (mh.flags * 16))) mh.code
theorem rawB_eq {mh : Mh} (h : rightH mh) : rawB mh = mh.opcode * 2048 + mh.flags * 16 + mh.code ∧ (0 ≤ rawB mh ∧ rawB mh < 32768) ∧ bits .or .i64 (rawB mh) 32768 = rawB mh + 32768 := by
  obtain ⟨_, ⟨h1, h2⟩, ⟨h3, h4⟩, h5, h6⟩ := h
  have key : rawB mh = mh.opcode * 2048 + mh.flags * 16 + mh.code := by
    unfold rawB
    obtain ⟨o, ho⟩ : ∃ o : Nat, mh.opcode = o := ⟨mh.opcode.toNat, by omega⟩
    obtain ⟨f, hf⟩ : ∃ f : Nat, mh.flags = f := ⟨mh.flags.toNat, by omega⟩
    obtain ⟨c, hc⟩ : ∃ c : Nat, mh.code = c := ⟨mh.code.toNat, by omega⟩
    rw [ho] at h1 h2 ⊢
    rw [hf] at h3 h4 ⊢
    rw [hc] at h5 h6 ⊢
    have e1 : o * 2 ^ 11 ||| f * 16 = o * 2 ^ 11 + f * 16 := or_off (by show f * 16 < 2048; omega)
    have e2 : (o * 128 + f) * 2 ^ 4 ||| c = (o * 128 + f) * 2 ^ 4 + c := or_off (by show c < 16; omega)
    rw [show wrap64 ((o : Int) * 2048) = ((o * 2 ^ 11 : Nat) : Int) by unfold wrap64; omega, show wrap64 ((f : Int) * 16) = ((f * 16 : Nat) : Int) by unfold wrap64; omega, i64_or_nat' _ _ (by omega) (by omega), e1, show o * 2 ^ 11 + f * 16 = (o * 128 + f) * 2 ^ 4 by omega, i64_or_nat' _ _ (by omega) (by omega), e2]
    omega
  refine ⟨key, by omega, ?_⟩
  obtain ⟨x, hx⟩ : ∃ x : Nat, rawB mh = x := ⟨(rawB mh).toNat, by omega⟩
  have e3 : 1 * 2 ^ 15 ||| x = 1 * 2 ^ 15 + x := or_off (by show x < 32768; omega)
  rw [hx, show (32768 : Int) = ((1 * 2 ^ 15 : Nat) : Int) from rfl, i64_or_nat' _ _ (by omega) (by omega), Nat.or_comm, e3]
  omega
set_option maxHeartbeats 2000000 in
theorem headFor_any (mh : Mh) (sq sa su se : Sl) (w : World) : Calls Tryz.prog 26 #[.agg (msv mh sq sa su se)] w fun e w' => ∃ B, e = .returned (.agg (hdv (hdU mh.id B sq.n sa.n su.n se.n))) ∧ (rightH mh → B = bitsV mh) ∧ Below w.heap.size w w' := by
  have a1 := MsBox.new w mh sq sa su se
  have b1 : Below w.heap.size w (w.alloc (.cells (msv mh sq sa su se) 26)) := (Below.refl _ _).alloc (Nat.le_refl _) _
  obtain ⟨W, hW⟩ : ∃ W, w.alloc (.cells (msv mh sq sa su se) 26) = W := ⟨_, rfl⟩
  rw [hW] at a1 b1
  have HW := Lib.hid hW
  have HA := Lib.hid (And.intro a1 b1)
  clear a1 b1 hW
  cases hr : mh.reply
  case false =>
    --<< h
    go_enter Tryz.func26, Tryz.ntmps26
    go_wp2_with (first
      | (refine wpList_store_hd rfl (.tmp 2) (.tmp 33) rfl (hdU mh.id (rawB mh) sq.n sa.n su.n se.n) rfl rfl H2.out.2.1 ?_; intro w3 a3 o3 z3 g3; have H3 := Lib.hid (And.intro a3 (g3 w.heap.size w HA.out.2.size H2.out.2.2)); clear a3 o3 z3 g3)
      | (rw [HW.out]; refine wpList_alloc_hd rfl rfl ?_; intro w2 a2 b2 z2; have H2 := Lib.hid (And.intro (HA.out.1.later b2 (Nat.le_refl _)) (And.intro a2 (HA.out.2.trans (b2.mono HA.out.2.size)))); (have c0 : w2.cell? ⟨w.heap.size, 0, none⟩ = some (.int .i64 mh.id) := H2.out.1.cell 0); (have c1 : w2.cell? ⟨w.heap.size, 1, none⟩ = some (.bool mh.reply) := H2.out.1.cell 1); rw [hr] at c1; (have c2 : w2.cell? ⟨w.heap.size, 2, none⟩ = some (.int .i64 mh.opcode) := H2.out.1.cell 2); (have c3 : w2.cell? ⟨w.heap.size, 3, none⟩ = some (.int .i64 mh.code) := H2.out.1.cell 3); (have c4 : w2.cell? ⟨w.heap.size, 4, none⟩ = some (.int .i64 mh.flags) := H2.out.1.cell 4); (have c5 : w2.cell? ⟨w.heap.size, 5, none⟩ = some (.slice sq.A sq.n sq.c) := H2.out.1.cell 5); (have c6 : w2.cell? ⟨w.heap.size, 6, none⟩ = some (.slice sa.A sa.n sa.c) := H2.out.1.cell 6); (have c7 : w2.cell? ⟨w.heap.size, 7, none⟩ = some (.slice su.A su.n su.c) := H2.out.1.cell 7); (have c8 : w2.cell? ⟨w.heap.size, 8, none⟩ = some (.slice se.A se.n se.c) := H2.out.1.cell 8); clear a2 b2 z2))
    exact bodyPost_ret (results_cell_row rfl _ _ W.heap.size 61 _ (0, 0) _ rfl H3.out.1 Tryz.underlying61 rfl (hd_size _)) rfl ⟨rawB mh, rfl, (fun h => by unfold bitsV; rw [hr, (rawB_eq h).1]; simp), H3.out.2⟩
    -->>
  case true =>
    --<< i
    go_enter Tryz.func26, Tryz.ntmps26
    go_wp2_with (first
      | (refine wpList_store_hd rfl (.tmp 2) (.tmp 33) rfl (hdU mh.id (bits .or .i64 (rawB mh) 32768) sq.n sa.n su.n se.n) rfl rfl H2.out.2.1 ?_; intro w3 a3 o3 z3 g3; have H3 := Lib.hid (And.intro a3 (g3 w.heap.size w HA.out.2.size H2.out.2.2)); clear a3 o3 z3 g3)
      | (rw [HW.out]; refine wpList_alloc_hd rfl rfl ?_; intro w2 a2 b2 z2; have H2 := Lib.hid (And.intro (HA.out.1.later b2 (Nat.le_refl _)) (And.intro a2 (HA.out.2.trans (b2.mono HA.out.2.size)))); (have c0 : w2.cell? ⟨w.heap.size, 0, none⟩ = some (.int .i64 mh.id) := H2.out.1.cell 0); (have c1 : w2.cell? ⟨w.heap.size, 1, none⟩ = some (.bool mh.reply) := H2.out.1.cell 1); rw [hr] at c1; (have c2 : w2.cell? ⟨w.heap.size, 2, none⟩ = some (.int .i64 mh.opcode) := H2.out.1.cell 2); (have c3 : w2.cell? ⟨w.heap.size, 3, none⟩ = some (.int .i64 mh.code) := H2.out.1.cell 3); (have c4 : w2.cell? ⟨w.heap.size, 4, none⟩ = some (.int .i64 mh.flags) := H2.out.1.cell 4); (have c5 : w2.cell? ⟨w.heap.size, 5, none⟩ = some (.slice sq.A sq.n sq.c) := H2.out.1.cell 5); (have c6 : w2.cell? ⟨w.heap.size, 6, none⟩ = some (.slice sa.A sa.n sa.c) := H2.out.1.cell 6); (have c7 : w2.cell? ⟨w.heap.size, 7, none⟩ = some (.slice su.A su.n su.c) := H2.out.1.cell 7); (have c8 : w2.cell? ⟨w.heap.size, 8, none⟩ = some (.slice se.A se.n se.c) := H2.out.1.cell 8); clear a2 b2 z2))
    exact bodyPost_ret (results_cell_row rfl _ _ W.heap.size 61 _ (0, 0) _ rfl H3.out.1 Tryz.underlying61 rfl (hd_size _)) rfl ⟨bits .or .i64 (rawB mh) 32768, rfl, (fun h => by unfold bitsV; rw [hr, (rawB_eq h).2.2, (rawB_eq h).1]; simp), H3.out.2⟩
    -->>
theorem hd_index0 (u : Nat → Int) (w : World) : (Instr.index 61 (.agg (hdv u)) (.int .i64 0)).run Tryz.prog w = .ok (.int .i64 (u 0)) w := by kernel_rfl
theorem hd_index1 (u : Nat → Int) (w : World) : (Instr.index 61 (.agg (hdv u)) (.int .i64 1)).run Tryz.prog w = .ok (.int .i64 (u 1)) w := by kernel_rfl
theorem hd_index2 (u : Nat → Int) (w : World) : (Instr.index 61 (.agg (hdv u)) (.int .i64 2)).run Tryz.prog w = .ok (.int .i64 (u 2)) w := by kernel_rfl
theorem hd_index3 (u : Nat → Int) (w : World) : (Instr.index 61 (.agg (hdv u)) (.int .i64 3)).run Tryz.prog w = .ok (.int .i64 (u 3)) w := by kernel_rfl
theorem hd_index4 (u : Nat → Int) (w : World) : (Instr.index 61 (.agg (hdv u)) (.int .i64 4)).run Tryz.prog w = .ok (.int .i64 (u 4)) w := by kernel_rfl
theorem hd_index5 (u : Nat → Int) (w : World) : (Instr.index 61 (.agg (hdv u)) (.int .i64 5)).run Tryz.prog w = .ok (.int .i64 (u 5)) w := by kernel_rfl
theorem hd_index (u : Nat → Int) {k : Nat} (hk : k < 6) (w : World) : (Instr.index 61 (.agg (hdv u)) (.int .i64 (k : Int))).run Tryz.prog w = .ok (.int .i64 (u k)) w := by
  match k, hk with
  | 0, _ => exact hd_index0 u w
  | 1, _ => exact hd_index1 u w
  | 2, _ => exact hd_index2 u w
  | 3, _ => exact hd_index3 u w
  | 4, _ => exact hd_index4 u w
  | 5, _ => exact hd_index5 u w
def hdP (u : Nat → Int) : Nat → List UInt8
  | 0 => []
  | k + 1 => hdP u k ++ putn (u k) 2
set_option maxHeartbeats 2000000 in
theorem headBytes_any (u : Nat → Int) (w : World) : Calls Tryz.prog 34 #[.agg (hdv u)] w fun e w' => ∃ A c, e = .returned (.slice A 12 c) ∧ Bs w' A 12 c (putn (u 0) 2 ++ (putn (u 1) 2 ++ (putn (u 2) 2 ++ (putn (u 3) 2 ++ (putn (u 4) 2 ++ putn (u 5) 2))))) ∧ Below w.heap.size w w' := by
  have a1 := HxBox.new w u
  have b1 : Below w.heap.size w (w.alloc (.cells (hdv u) 61)) := (Below.refl _ _).alloc (Nat.le_refl _) _
  obtain ⟨W, hW⟩ : ∃ W, w.alloc (.cells (hdv u) 61) = W := ⟨_, rfl⟩
  rw [hW] at a1 b1
  have HW := Lib.hid hW
  have HA := Lib.hid (And.intro a1 b1)
  clear a1 b1 hW
  --<< k
  go_enter Tryz.func34, Tryz.ntmps34
  go_wp2_with (first | (refine wpList_load_hd rfl (.tmp 1) rfl rfl HA.out.1 ?_) | (rw [HW.out]))
  go_loopw [3, 7] (fun b i wr => ∃ k : Nat, k ≤ 6 ∧ i = .int .i64 k ∧ ∃ A c, b = .slice A (2 * k) c ∧ Bs wr A (2 * k) c (hdP u k) ∧ Below w.heap.size w wr) (fun _ i _ => 6 - (intOf i).toNat)
  case atStart => exact ⟨0, by omega, rfl, none, 0, rfl, Bs.nil _, HA.out.2⟩
  case round =>
    obtain ⟨k, hk, rfl, A, c, rfl, hB, hbe⟩ := hrel
    have HO := Lib.hid (And.intro hB hbe)
    clear hB hbe
    by_cases hlt : k < 6
    · have hix := hd_index u hlt
      go_wp2_with fail
      refine (put16_any HO.out.1 (u k) (by omega)).mono ?_
      rintro e w1 ⟨v1, rfl, o1, b1⟩
      obtain ⟨A1, c1, rfl, B1⟩ := Bs.of_own o1
      have H1 := Lib.hid (And.intro B1 (HO.out.2.trans (b1.mono HO.out.2.size)))
      clear o1 b1 B1
      go_wp2_with fail
      go_roundw
      case rel => exact ⟨k + 1, by omega, by go_num, A1, c1, rfl, H1.out⟩
      case measure => simp [intOf]; omega
    · obtain rfl : k = 6 := by omega
      go_wp2_with fail
      go_ret
      refine ⟨A, c, rfl, ?_, HO.out.2⟩
      have hz := HO.out.1
      unfold hdP hdP hdP hdP hdP hdP hdP at hz
      simpa using hz
  -->>
/-- The head's numbers, so far. -/
def uK (l : List UInt8) (k : Nat) (j : Nat) : Int := if j < k then (hdN l j : Int) else 0
theorem uK_next (l : List UInt8) (k : Nat) : (fun j => if j = k then (hdN l k : Int) else uK l k j) = uK l (k + 1) := by
  funext j
  unfold uK
  by_cases h : j = k
  · rw [if_pos h, if_pos (by omega), h]
  · rw [if_neg h]
    by_cases h2 : j < k
    · rw [if_pos h2, if_pos (by omega)]
    · rw [if_neg h2, if_neg (by omega)]
theorem uK_zero (l : List UInt8) : uK l 0 = fun _ => 0 := by funext j; unfold uK; rw [if_neg (by omega)]
set_option maxHeartbeats 2000000 in
theorem headOf_any {A : Option Addr} {n c : Nat} {l : List UInt8} {w : World} (hb : Bs w A n c l) (h47 : n ≤ 140737488350000) : Calls Tryz.prog 18 #[.slice A n c] w fun e w' => (12 ≤ n → e = .returned (.tuple #[.agg (hdv (uK l 6)), .nilIface])) ∧ (n < 12 → ∃ T x, e = .returned (.tuple #[.agg (hdv fun _ => 0), .iface T x]) ∧ Tells w' (.iface T x) ⟨3, 0, true⟩) ∧ Below w.heap.size w w' := by
  have HB := Lib.hid hb
  clear hb
  --<< m
  go_enter Tryz.func18, Tryz.ntmps18
  go_wp2_with (first
    | (refine wpList_alloc_hd rfl rfl ?_; intro w2 a2 b2 z2; have H2 := Lib.hid (And.intro (H1.out.1.later b2 (Nat.le_refl _)) (And.intro a2 (H1.out.2.trans (b2.mono H1.out.2.size)))); have HG := Lib.hid H1.out.1.lt; clear a2 b2 z2)
    | (refine wpList_alloc_hd rfl rfl ?_; intro w1 a1 b1 z1; have H1 := Lib.hid (And.intro a1 b1); clear a1 b1 z1))
  go_loopw [8] (fun i wr => ∃ k : Nat, k ≤ 6 ∧ 2 * k ≤ n ∧ i = .int .i64 k ∧ HxBox wr w.heap.size (fun _ => 0) ∧ HxBox wr w1.heap.size (uK l k) ∧ Below w.heap.size w wr) (fun i _ => 6 - (intOf i).toNat)
  case atStart => exact ⟨0, by omega, by omega, rfl, H2.out.1, by rw [uK_zero]; exact H2.out.2.1, H2.out.2.2⟩
  case round =>
    obtain ⟨k, hk, hkn, rfl, a1, a2, hbe⟩ := hrel
    have HO := Lib.hid (And.intro a1 (And.intro a2 hbe))
    clear a1 a2 hbe
    by_cases hlt : k < 6
    · by_cases hn : 2 * k + 2 ≤ n
      · go_wp2_with fail
        rw [show (k : Int) * 2 = ((2 * k : Nat) : Int) by omega]
        refine (u16_there (HB.out.later HO.out.2.2 (Nat.le_refl _)) h47 hn).mono ?_
        rintro e w3 ⟨rfl, b3⟩
        have H3 := Lib.hid (And.intro (HO.out.1.later b3 (Nat.le_refl _)) (And.intro (HO.out.2.1.later b3 (Nat.le_refl _)) (HO.out.2.2.trans (b3.mono HO.out.2.2.size))))
        clear b3
        go_wp2_with fail
        refine (Is_nil _ _ w3).mono ?_
        rintro e w' ⟨rfl, rfl⟩
        have cc := H3.out.2.1.at_ hlt
        have cf := H3.out.2.1.frozen k
        have hp := H3.out.2.1.put hlt (num2 l (2 * k) : Nat)
        rw [show (fun j => if j = k then ((num2 l (2 * k) : Nat) : Int) else uK l k j) = uK l (k + 1) from uK_next l k] at hp
        have H4 := Lib.hid (And.intro (H3.out.1.same (Below.heap_setCell w3 ⟨w1.heap.size, k, none⟩ (.int .i64 (num2 l (2 * k) : Nat)) _ (Nat.ne_of_lt HG.out))) (And.intro hp (H3.out.2.2.setCell (p := ⟨w1.heap.size, k, none⟩) (Nat.le_of_lt HG.out) (.int .i64 (num2 l (2 * k) : Nat)))))
        clear hp
        go_wp2_with fail
        go_roundw
        case rel => exact ⟨k + 1, by omega, by omega, by go_num, H4.out⟩
        case measure => simp [intOf]; omega
      · go_wp2_with fail
        rw [show (k : Int) * 2 = ((2 * k : Nat) : Int) by omega]
        refine (u16_not (HB.out.later HO.out.2.2 (Nat.le_refl _)) (by omega) (by omega)).mono ?_
        rintro e w3 ⟨z3, T, x, rfl, t3, b3⟩
        have H3 := Lib.hid (And.intro (HO.out.1.later b3 (Nat.le_refl _)) (And.intro t3 (HO.out.2.2.trans (b3.mono HO.out.2.2.size))))
        clear t3 b3
        go_wp2_with fail
        refine (Is_told H3.out.2.1 (show (3 : Int) ≠ 0 by decide) 3).mono ?_
        rintro e w' ⟨rfl, rfl⟩
        go_wp2_with fail
        refine (wrap_told 0 (Tells.bare w3 3 (by decide) 0) (by decide)).mono ?_
        rintro e w5 ⟨v5, rfl, t5, b5⟩
        obtain ⟨T5, x5, rfl⟩ := t5.held' (by decide)
        have H5 := Lib.hid (And.intro (H3.out.1.later b5 (Nat.le_refl _)) (And.intro t5 (H3.out.2.2.trans (b5.mono H3.out.2.2.size))))
        clear t5 b5
        go_wp2_with (refine wpList_store_hd rfl (.tmp 2) (.tmp 21) rfl (fun _ => 0) rfl rfl H5.out.1 ?_; intro w6 a6 o6 z6 g6; have H6 := Lib.hid (And.intro a6 (And.intro (H5.out.2.1.farHx H5.out.1 o6) (g6 w.heap.size w (Nat.le_refl _) H5.out.2.2))); clear a6 o6 z6 g6)
        exact bodyPost_ret (results_hd_tmp rfl _ rfl H6.out.1) rfl ⟨fun h => absurd h (by omega), fun _ => ⟨T5, x5, rfl, H6.out.2.1⟩, H6.out.2.2⟩
    · obtain rfl : k = 6 := by omega
      go_wp2_with (first
        | (refine wpList_store_hd rfl (.tmp 2) (.tmp 28) rfl (uK l 6) rfl rfl HO.out.1 ?_; intro w6 a6 o6 z6 g6; have H6 := Lib.hid (And.intro a6 (g6 w.heap.size w (Nat.le_refl _) HO.out.2.2)); clear a6 o6 z6 g6)
        | (refine wpList_load_hd rfl (.tmp 4) rfl rfl HO.out.2.1 ?_))
      exact bodyPost_ret (results_hd_tmp rfl _ rfl H6.out.1) rfl ⟨fun _ => rfl, fun h => absurd h (by omega), H6.out.2⟩
  -->>
end Go.Proofs.YtbikifaadpijnaaGreatDoor
