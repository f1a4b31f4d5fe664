/-
  stockaderef01.BuildIp6: the document's own answers on what is built of version 6. Conditions: those of the slices; 100,000 bytes, and 1,000 heads, at most.
-/
import Derived.Test.YtceigepclemdmaaDoorRefS7
import Derived.Test.YtceigepclemdmaaDoorRefPut
import Derived.Test.YtceigepclemdmaaDoorBld7
namespace Go.Proofs.YtceigepclemdmaaDoor
open Go.RowKit
set_option maxRecDepth 100000

theorem own_same {w w' : World} {base n size : Nat} {e : TypeId} {v : Value} {xs : List Value} (h : w.ownsRow base e size v n xs) (hh : ∀ k, base ≤ k → w'.heap[k]? = w.heap[k]?) : w'.ownsRow base e size v n xs := by
  refine ⟨h.1, ?_⟩
  rcases h.2 with h | ⟨g, cap, cur, e1, h1, h2, h3⟩
  · exact .inl h
  · exact .inr ⟨g, cap, cur, e1, h1, (hh g h1).trans h2, h3⟩
/-- What the reference of Build hands back. -/
def BldF (sv dv : Bool) (a b : List UInt8) (proto : Int) (ks : List Int) (n : Nat) (l : List UInt8) (w : World) (e : Ending) (w' : World) : Prop :=
  ∃ A' n' c', e = .returned (.tuple #[.slice A' n' c', .agg (flv (build6e sv dv proto ks n).code (build6e sv dv proto ks n).at_ (build6e sv dv proto ks n).placed)]) ∧ Bs w' A' n' c' (build6v sv dv a b proto ks n l) ∧ Below w.heap.size w w'
theorem bldF_no {w w0 : World} {sv dv : Bool} {a b : List UInt8} {proto : Int} {ks : List Int} {n : Nat} {l : List UInt8} (h : ¬ may6 sv dv proto ks n) (hb : Below w0.heap.size w0 w) : BldF sv dv a b proto ks n l w0 (.returned (.tuple #[.slice none 0 0, .agg (flv 1 0 false)])) w := by
  refine ⟨none, 0, 0, ?_, ?_, hb⟩
  · unfold build6e; rw [if_neg h]
  · unfold build6v; rw [if_neg h]; exact Bs.nil _
theorem bldF_yes {w w0 : World} {sv dv : Bool} {a b : List UInt8} {proto : Int} {ks : List Int} {n n' c' : Nat} {l : List UInt8} {A' : Option Addr} (h : may6 sv dv proto ks n) (hB : Bs w A' n' c' (built6 a b proto ks n l)) (hb : Below w0.heap.size w0 w) : BldF sv dv a b proto ks n l w0 (.returned (.tuple #[.slice A' n' c', .agg (flv 0 0 false)])) w := by
  refine ⟨A', n', c', ?_, ?_, hb⟩
  · unfold build6e; rw [if_pos h]
  · unfold build6v; rw [if_pos h]; exact hB

set_option maxHeartbeats 16000000 in
theorem ref_build6 {A B : Option Addr} {n c m d : Nat} {l : List UInt8} {zs : List Int} {w : World} (sv dv : Bool) {sb db : List UInt8} (hsb : sb.length = 16) (hdb : db.length = 16) (proto : Int) (hz : Gs w B m d (zv zs)) (hb : Bs w A n c l) (h2 : n ≤ 100000) (h3 : m ≤ 1000) :
    Calls Tryd.prog 10 #[.agg (adv sv sb), .agg (adv dv db), .int .i64 proto, .slice B m d, .slice A n c] w (BldF sv dv sb db proto zs n l w) := by
  have hm := Nat.le_trans hb.cap hb.max
  have hm2 := Nat.le_trans hz.cap hz.max
  have hzl : zs.length = m := by rw [← zv_length]; exact hz.len
  unfold maxLen at hm hm2
  have HB := Lib.hid (And.intro hb hz)
  have HL := Lib.hid hzl
  clear hb hz hzl
  have A1 := AdBox.new w sv hsb
  have B1 : Below w.heap.size w (w.alloc (.cells (adv sv sb) 25)) := (Below.refl _ _).alloc (Nat.le_refl _) _
  have A2 := AdBox.new (w.alloc (.cells (adv sv sb) 25)) dv hdb
  rw [World.size_alloc] at A2
  have B2 : Below (w.heap.size + 1) (w.alloc (.cells (adv sv sb) 25)) ((w.alloc (.cells (adv sv sb) 25)).alloc (.cells (adv dv db) 25)) := (Below.refl _ _).alloc (by simp) _
  have hA := And.intro (A1.later B2 (by simp)) (And.intro A2 (B1.trans (B2.mono (by omega))))
  obtain ⟨W, hW⟩ : ∃ W, (w.alloc (.cells (adv sv sb) 25)).alloc (.cells (adv dv db) 25) = W := ⟨_, rfl⟩
  rw [hW] at hA
  have HA := Lib.hid hA
  have HW := Lib.hid hW
  clear A1 B1 A2 B2 hA hW
  have KP := fun w => ref_extends proto w
  cases sv with
  | false =>
    have HNO := Lib.hid (show ¬ may6 false dv proto zs n from fun h => by cases h.1)
    clear KP
    rcases Nat.eq_zero_or_pos m with rfl | hm0
    · have hm0d : decide ((0 : Int) < ((0 : Nat) : Int)) = false := by decide
      go_enter Tryd.func10, Tryd.ntmps10
      go_wp2_with (rw [HW.out]; refine wpList_alloc_fl rfl rfl ?_; intro w1 a1 b1 z1; have H1 := Lib.hid (And.intro (HA.out.1.later b1 (Nat.le_refl _)) (And.intro (HA.out.2.1.later b1 (Nat.le_refl _)) (And.intro a1 (HA.out.2.2.trans (b1.mono HA.out.2.2.size))))); have cs := H1.out.1.v6_cell; have cd := H1.out.2.1.v6_cell; clear a1 b1 z1)
      go_loop [12, 13] (fun b i => b = .bool true ∧ i = .int .i64 0) (fun _ _ => 0)
      case atStart => exact ⟨rfl, rfl⟩
      case round =>
        obtain ⟨rfl, rfl⟩ := hrel
        go_wp2_with fail
        refine (help_bare 1 _).mono ?_
        rintro e w2 ⟨rfl, b2⟩
        have H2 := Lib.hid (And.intro (H1.out.2.2.1.later b2 (Nat.le_refl _)) (H1.out.2.2.2.trans (b2.mono H1.out.2.2.2.size)))
        have hg : w.heap.size ≤ W.heap.size := HA.out.2.2.size
        clear b2
        go_wp2_with (refine wpList_store_fl rfl (.tmp 11) (.tmp 79) rfl 1 0 false rfl rfl H2.out.1 ?_; intro w3 a3 o3 z3 b3; have H3 := Lib.hid (And.intro a3 (b3 w.heap.size w hg H2.out.2)); clear a3 o3 z3 b3)
        exact bodyPost_ret (results_tmp_fl rfl _ rfl H3.out.1) rfl (bldF_no HNO.out H3.out.2)
    · have hm0d : decide ((0 : Int) < (m : Int)) = true := decide_eq_true (by omega)
      go_enter Tryd.func10, Tryd.ntmps10
      go_wp2_with (rw [HW.out]; refine wpList_alloc_fl rfl rfl ?_; intro w1 a1 b1 z1; have H1 := Lib.hid (And.intro (HA.out.1.later b1 (Nat.le_refl _)) (And.intro (HA.out.2.1.later b1 (Nat.le_refl _)) (And.intro a1 (HA.out.2.2.trans (b1.mono HA.out.2.2.size))))); have cs := H1.out.1.v6_cell; have cd := H1.out.2.1.v6_cell; clear a1 b1 z1)
      go_loop [12, 13] (fun b i => b = .bool true ∧ i = .int .i64 0) (fun _ _ => 0)
      case atStart => exact ⟨rfl, rfl⟩
      case round =>
        obtain ⟨rfl, rfl⟩ := hrel
        go_wp2_with fail
        refine (help_bare 1 _).mono ?_
        rintro e w2 ⟨rfl, b2⟩
        have H2 := Lib.hid (And.intro (H1.out.2.2.1.later b2 (Nat.le_refl _)) (H1.out.2.2.2.trans (b2.mono H1.out.2.2.2.size)))
        have hg : w.heap.size ≤ W.heap.size := HA.out.2.2.size
        clear b2
        go_wp2_with (refine wpList_store_fl rfl (.tmp 11) (.tmp 79) rfl 1 0 false rfl rfl H2.out.1 ?_; intro w3 a3 o3 z3 b3; have H3 := Lib.hid (And.intro a3 (b3 w.heap.size w hg H2.out.2)); clear a3 o3 z3 b3)
        exact bodyPost_ret (results_tmp_fl rfl _ rfl H3.out.1) rfl (bldF_no HNO.out H3.out.2)
  | true =>
  cases dv with
  | false =>
    have HNO := Lib.hid (show ¬ may6 true false proto zs n from fun h => by cases h.2.1)
    clear KP
    rcases Nat.eq_zero_or_pos m with rfl | hm0
    · have hm0d : decide ((0 : Int) < ((0 : Nat) : Int)) = false := by decide
      go_enter Tryd.func10, Tryd.ntmps10
      go_wp2_with (rw [HW.out]; refine wpList_alloc_fl rfl rfl ?_; intro w1 a1 b1 z1; have H1 := Lib.hid (And.intro (HA.out.1.later b1 (Nat.le_refl _)) (And.intro (HA.out.2.1.later b1 (Nat.le_refl _)) (And.intro a1 (HA.out.2.2.trans (b1.mono HA.out.2.2.size))))); have cs := H1.out.1.v6_cell; have cd := H1.out.2.1.v6_cell; clear a1 b1 z1)
      go_loop [12, 13] (fun b i => b = .bool true ∧ i = .int .i64 0) (fun _ _ => 0)
      case atStart => exact ⟨rfl, rfl⟩
      case round =>
        obtain ⟨rfl, rfl⟩ := hrel
        go_wp2_with fail
        refine (help_bare 1 _).mono ?_
        rintro e w2 ⟨rfl, b2⟩
        have H2 := Lib.hid (And.intro (H1.out.2.2.1.later b2 (Nat.le_refl _)) (H1.out.2.2.2.trans (b2.mono H1.out.2.2.2.size)))
        have hg : w.heap.size ≤ W.heap.size := HA.out.2.2.size
        clear b2
        go_wp2_with (refine wpList_store_fl rfl (.tmp 11) (.tmp 79) rfl 1 0 false rfl rfl H2.out.1 ?_; intro w3 a3 o3 z3 b3; have H3 := Lib.hid (And.intro a3 (b3 w.heap.size w hg H2.out.2)); clear a3 o3 z3 b3)
        exact bodyPost_ret (results_tmp_fl rfl _ rfl H3.out.1) rfl (bldF_no HNO.out H3.out.2)
    · have hm0d : decide ((0 : Int) < (m : Int)) = true := decide_eq_true (by omega)
      go_enter Tryd.func10, Tryd.ntmps10
      go_wp2_with (rw [HW.out]; refine wpList_alloc_fl rfl rfl ?_; intro w1 a1 b1 z1; have H1 := Lib.hid (And.intro (HA.out.1.later b1 (Nat.le_refl _)) (And.intro (HA.out.2.1.later b1 (Nat.le_refl _)) (And.intro a1 (HA.out.2.2.trans (b1.mono HA.out.2.2.size))))); have cs := H1.out.1.v6_cell; have cd := H1.out.2.1.v6_cell; clear a1 b1 z1)
      go_loop [12, 13] (fun b i => b = .bool true ∧ i = .int .i64 0) (fun _ _ => 0)
      case atStart => exact ⟨rfl, rfl⟩
      case round =>
        obtain ⟨rfl, rfl⟩ := hrel
        go_wp2_with fail
        refine (help_bare 1 _).mono ?_
        rintro e w2 ⟨rfl, b2⟩
        have H2 := Lib.hid (And.intro (H1.out.2.2.1.later b2 (Nat.le_refl _)) (H1.out.2.2.2.trans (b2.mono H1.out.2.2.2.size)))
        have hg : w.heap.size ≤ W.heap.size := HA.out.2.2.size
        clear b2
        go_wp2_with (refine wpList_store_fl rfl (.tmp 11) (.tmp 79) rfl 1 0 false rfl rfl H2.out.1 ?_; intro w3 a3 o3 z3 b3; have H3 := Lib.hid (And.intro a3 (b3 w.heap.size w hg H2.out.2)); clear a3 o3 z3 b3)
        exact bodyPost_ret (results_tmp_fl rfl _ rfl H3.out.1) rfl (bldF_no HNO.out H3.out.2)
  | true =>
  by_cases hp : proto < 0
  · have hpd : decide (proto < 0) = true := decide_eq_true hp
    have HNO := Lib.hid (show ¬ may6 true true proto zs n from fun h => by have := h.2.2.1; omega)
    clear KP
    rcases Nat.eq_zero_or_pos m with rfl | hm0
    · have hm0d : decide ((0 : Int) < ((0 : Nat) : Int)) = false := by decide
      go_enter Tryd.func10, Tryd.ntmps10
      go_wp2_with (rw [HW.out]; refine wpList_alloc_fl rfl rfl ?_; intro w1 a1 b1 z1; have H1 := Lib.hid (And.intro (HA.out.1.later b1 (Nat.le_refl _)) (And.intro (HA.out.2.1.later b1 (Nat.le_refl _)) (And.intro a1 (HA.out.2.2.trans (b1.mono HA.out.2.2.size))))); have cs := H1.out.1.v6_cell; have cd := H1.out.2.1.v6_cell; clear a1 b1 z1)
      go_loop [12, 13] (fun b i => b = .bool true ∧ i = .int .i64 0) (fun _ _ => 0)
      case atStart => exact ⟨rfl, rfl⟩
      case round =>
        obtain ⟨rfl, rfl⟩ := hrel
        go_wp2_with fail
        refine (help_bare 1 _).mono ?_
        rintro e w2 ⟨rfl, b2⟩
        have H2 := Lib.hid (And.intro (H1.out.2.2.1.later b2 (Nat.le_refl _)) (H1.out.2.2.2.trans (b2.mono H1.out.2.2.2.size)))
        have hg : w.heap.size ≤ W.heap.size := HA.out.2.2.size
        clear b2
        go_wp2_with (refine wpList_store_fl rfl (.tmp 11) (.tmp 79) rfl 1 0 false rfl rfl H2.out.1 ?_; intro w3 a3 o3 z3 b3; have H3 := Lib.hid (And.intro a3 (b3 w.heap.size w hg H2.out.2)); clear a3 o3 z3 b3)
        exact bodyPost_ret (results_tmp_fl rfl _ rfl H3.out.1) rfl (bldF_no HNO.out H3.out.2)
    · have hm0d : decide ((0 : Int) < (m : Int)) = true := decide_eq_true (by omega)
      go_enter Tryd.func10, Tryd.ntmps10
      go_wp2_with (rw [HW.out]; refine wpList_alloc_fl rfl rfl ?_; intro w1 a1 b1 z1; have H1 := Lib.hid (And.intro (HA.out.1.later b1 (Nat.le_refl _)) (And.intro (HA.out.2.1.later b1 (Nat.le_refl _)) (And.intro a1 (HA.out.2.2.trans (b1.mono HA.out.2.2.size))))); have cs := H1.out.1.v6_cell; have cd := H1.out.2.1.v6_cell; clear a1 b1 z1)
      go_loop [12, 13] (fun b i => b = .bool true ∧ i = .int .i64 0) (fun _ _ => 0)
      case atStart => exact ⟨rfl, rfl⟩
      case round =>
        obtain ⟨rfl, rfl⟩ := hrel
        go_wp2_with fail
        refine (help_bare 1 _).mono ?_
        rintro e w2 ⟨rfl, b2⟩
        have H2 := Lib.hid (And.intro (H1.out.2.2.1.later b2 (Nat.le_refl _)) (H1.out.2.2.2.trans (b2.mono H1.out.2.2.2.size)))
        have hg : w.heap.size ≤ W.heap.size := HA.out.2.2.size
        clear b2
        go_wp2_with (refine wpList_store_fl rfl (.tmp 11) (.tmp 79) rfl 1 0 false rfl rfl H2.out.1 ?_; intro w3 a3 o3 z3 b3; have H3 := Lib.hid (And.intro a3 (b3 w.heap.size w hg H2.out.2)); clear a3 o3 z3 b3)
        exact bodyPost_ret (results_tmp_fl rfl _ rfl H3.out.1) rfl (bldF_no HNO.out H3.out.2)
  have hpd : decide (proto < 0) = false := decide_eq_false hp
  by_cases hp2 : 255 < proto
  · have hpe : decide (255 < proto) = true := decide_eq_true hp2
    have HNO := Lib.hid (show ¬ may6 true true proto zs n from fun h => by have := h.2.2.1; omega)
    clear KP
    rcases Nat.eq_zero_or_pos m with rfl | hm0
    · have hm0d : decide ((0 : Int) < ((0 : Nat) : Int)) = false := by decide
      go_enter Tryd.func10, Tryd.ntmps10
      go_wp2_with (rw [HW.out]; refine wpList_alloc_fl rfl rfl ?_; intro w1 a1 b1 z1; have H1 := Lib.hid (And.intro (HA.out.1.later b1 (Nat.le_refl _)) (And.intro (HA.out.2.1.later b1 (Nat.le_refl _)) (And.intro a1 (HA.out.2.2.trans (b1.mono HA.out.2.2.size))))); have cs := H1.out.1.v6_cell; have cd := H1.out.2.1.v6_cell; clear a1 b1 z1)
      go_loop [12, 13] (fun b i => b = .bool true ∧ i = .int .i64 0) (fun _ _ => 0)
      case atStart => exact ⟨rfl, rfl⟩
      case round =>
        obtain ⟨rfl, rfl⟩ := hrel
        go_wp2_with fail
        refine (help_bare 1 _).mono ?_
        rintro e w2 ⟨rfl, b2⟩
        have H2 := Lib.hid (And.intro (H1.out.2.2.1.later b2 (Nat.le_refl _)) (H1.out.2.2.2.trans (b2.mono H1.out.2.2.2.size)))
        have hg : w.heap.size ≤ W.heap.size := HA.out.2.2.size
        clear b2
        go_wp2_with (refine wpList_store_fl rfl (.tmp 11) (.tmp 79) rfl 1 0 false rfl rfl H2.out.1 ?_; intro w3 a3 o3 z3 b3; have H3 := Lib.hid (And.intro a3 (b3 w.heap.size w hg H2.out.2)); clear a3 o3 z3 b3)
        exact bodyPost_ret (results_tmp_fl rfl _ rfl H3.out.1) rfl (bldF_no HNO.out H3.out.2)
    · have hm0d : decide ((0 : Int) < (m : Int)) = true := decide_eq_true (by omega)
      go_enter Tryd.func10, Tryd.ntmps10
      go_wp2_with (rw [HW.out]; refine wpList_alloc_fl rfl rfl ?_; intro w1 a1 b1 z1; have H1 := Lib.hid (And.intro (HA.out.1.later b1 (Nat.le_refl _)) (And.intro (HA.out.2.1.later b1 (Nat.le_refl _)) (And.intro a1 (HA.out.2.2.trans (b1.mono HA.out.2.2.size))))); have cs := H1.out.1.v6_cell; have cd := H1.out.2.1.v6_cell; clear a1 b1 z1)
      go_loop [12, 13] (fun b i => b = .bool true ∧ i = .int .i64 0) (fun _ _ => 0)
      case atStart => exact ⟨rfl, rfl⟩
      case round =>
        obtain ⟨rfl, rfl⟩ := hrel
        go_wp2_with fail
        refine (help_bare 1 _).mono ?_
        rintro e w2 ⟨rfl, b2⟩
        have H2 := Lib.hid (And.intro (H1.out.2.2.1.later b2 (Nat.le_refl _)) (H1.out.2.2.2.trans (b2.mono H1.out.2.2.2.size)))
        have hg : w.heap.size ≤ W.heap.size := HA.out.2.2.size
        clear b2
        go_wp2_with (refine wpList_store_fl rfl (.tmp 11) (.tmp 79) rfl 1 0 false rfl rfl H2.out.1 ?_; intro w3 a3 o3 z3 b3; have H3 := Lib.hid (And.intro a3 (b3 w.heap.size w hg H2.out.2)); clear a3 o3 z3 b3)
        exact bodyPost_ret (results_tmp_fl rfl _ rfl H3.out.1) rfl (bldF_no HNO.out H3.out.2)
  have hpe : decide (255 < proto) = false := decide_eq_false hp2
  by_cases hx : ext proto
  · rw [decide_eq_true hx] at KP
    have hx' := hx
    clear hx
    have HNO := Lib.hid (show ¬ may6 true true proto zs n from fun h => h.2.2.2.1 hx')
    have KP := Lib.hid KP
    rcases Nat.eq_zero_or_pos m with rfl | hm0
    · have hm0d : decide ((0 : Int) < ((0 : Nat) : Int)) = false := by decide
      go_enter Tryd.func10, Tryd.ntmps10
      go_wp2_with (rw [HW.out]; refine wpList_alloc_fl rfl rfl ?_; intro w1 a1 b1 z1; have H1 := Lib.hid (And.intro (HA.out.1.later b1 (Nat.le_refl _)) (And.intro (HA.out.2.1.later b1 (Nat.le_refl _)) (And.intro a1 (HA.out.2.2.trans (b1.mono HA.out.2.2.size))))); have cs := H1.out.1.v6_cell; have cd := H1.out.2.1.v6_cell; clear a1 b1 z1)
      refine (KP.out _).mono ?_
      rintro e w' ⟨rfl, rfl⟩
      go_wp2_with fail
      go_loop [12, 13] (fun b i => b = .bool true ∧ i = .int .i64 0) (fun _ _ => 0)
      case atStart => exact ⟨rfl, rfl⟩
      case round =>
        obtain ⟨rfl, rfl⟩ := hrel
        go_wp2_with fail
        refine (help_bare 1 _).mono ?_
        rintro e w2 ⟨rfl, b2⟩
        have H2 := Lib.hid (And.intro (H1.out.2.2.1.later b2 (Nat.le_refl _)) (H1.out.2.2.2.trans (b2.mono H1.out.2.2.2.size)))
        have hg : w.heap.size ≤ W.heap.size := HA.out.2.2.size
        clear b2
        go_wp2_with (refine wpList_store_fl rfl (.tmp 11) (.tmp 79) rfl 1 0 false rfl rfl H2.out.1 ?_; intro w3 a3 o3 z3 b3; have H3 := Lib.hid (And.intro a3 (b3 w.heap.size w hg H2.out.2)); clear a3 o3 z3 b3)
        exact bodyPost_ret (results_tmp_fl rfl _ rfl H3.out.1) rfl (bldF_no HNO.out H3.out.2)
    · have hm0d : decide ((0 : Int) < (m : Int)) = true := decide_eq_true (by omega)
      go_enter Tryd.func10, Tryd.ntmps10
      go_wp2_with (rw [HW.out]; refine wpList_alloc_fl rfl rfl ?_; intro w1 a1 b1 z1; have H1 := Lib.hid (And.intro (HA.out.1.later b1 (Nat.le_refl _)) (And.intro (HA.out.2.1.later b1 (Nat.le_refl _)) (And.intro a1 (HA.out.2.2.trans (b1.mono HA.out.2.2.size))))); have cs := H1.out.1.v6_cell; have cd := H1.out.2.1.v6_cell; clear a1 b1 z1)
      refine (KP.out _).mono ?_
      rintro e w' ⟨rfl, rfl⟩
      go_wp2_with fail
      go_loop [12, 13] (fun b i => b = .bool true ∧ i = .int .i64 0) (fun _ _ => 0)
      case atStart => exact ⟨rfl, rfl⟩
      case round =>
        obtain ⟨rfl, rfl⟩ := hrel
        go_wp2_with fail
        refine (help_bare 1 _).mono ?_
        rintro e w2 ⟨rfl, b2⟩
        have H2 := Lib.hid (And.intro (H1.out.2.2.1.later b2 (Nat.le_refl _)) (H1.out.2.2.2.trans (b2.mono H1.out.2.2.2.size)))
        have hg : w.heap.size ≤ W.heap.size := HA.out.2.2.size
        clear b2
        go_wp2_with (refine wpList_store_fl rfl (.tmp 11) (.tmp 79) rfl 1 0 false rfl rfl H2.out.1 ?_; intro w3 a3 o3 z3 b3; have H3 := Lib.hid (And.intro a3 (b3 w.heap.size w hg H2.out.2)); clear a3 o3 z3 b3)
        exact bodyPost_ret (results_tmp_fl rfl _ rfl H3.out.1) rfl (bldF_no HNO.out H3.out.2)
  rw [decide_eq_false hx] at KP
  by_cases hm8 : 8 < m
  · have hm8d : decide ((8 : Int) < (m : Int)) = true := decide_eq_true (by omega)
    have HNO := Lib.hid (show ¬ may6 true true proto zs n from fun h => by have := h.2.2.2.2.1; rw [HL.out] at this; omega)
    have KP := Lib.hid KP
    have hm0d : decide ((0 : Int) < (m : Int)) = true := decide_eq_true (by omega)
    clear hx
    go_enter Tryd.func10, Tryd.ntmps10
    go_wp2_with (rw [HW.out]; refine wpList_alloc_fl rfl rfl ?_; intro w1 a1 b1 z1; have H1 := Lib.hid (And.intro (HA.out.1.later b1 (Nat.le_refl _)) (And.intro (HA.out.2.1.later b1 (Nat.le_refl _)) (And.intro a1 (HA.out.2.2.trans (b1.mono HA.out.2.2.size))))); have cs := H1.out.1.v6_cell; have cd := H1.out.2.1.v6_cell; clear a1 b1 z1)
    refine (KP.out _).mono ?_
    rintro e w' ⟨rfl, rfl⟩
    go_wp2_with fail
    go_loop [12, 13] (fun b i => b = .bool true ∧ i = .int .i64 0) (fun _ _ => 0)
    case atStart => exact ⟨rfl, rfl⟩
    case round =>
      obtain ⟨rfl, rfl⟩ := hrel
      go_wp2_with fail
      refine (help_bare 1 _).mono ?_
      rintro e w2 ⟨rfl, b2⟩
      have H2 := Lib.hid (And.intro (H1.out.2.2.1.later b2 (Nat.le_refl _)) (H1.out.2.2.2.trans (b2.mono H1.out.2.2.2.size)))
      have hg : w.heap.size ≤ W.heap.size := HA.out.2.2.size
      clear b2
      go_wp2_with (refine wpList_store_fl rfl (.tmp 11) (.tmp 79) rfl 1 0 false rfl rfl H2.out.1 ?_; intro w3 a3 o3 z3 b3; have H3 := Lib.hid (And.intro a3 (b3 w.heap.size w hg H2.out.2)); clear a3 o3 z3 b3)
      exact bodyPost_ret (results_tmp_fl rfl _ rfl H3.out.1) rfl (bldF_no HNO.out H3.out.2)
  have hm8d : decide ((8 : Int) < (m : Int)) = false := decide_eq_false (by omega)
  have KP := Lib.hid KP
  have HX := Lib.hid hx
  clear hx
  go_enter Tryd.func10, Tryd.ntmps10
  go_wp2_with (rw [HW.out]; refine wpList_alloc_fl rfl rfl ?_; intro w1 a1 b1 z1; have H1 := Lib.hid (And.intro (HA.out.1.later b1 (Nat.le_refl _)) (And.intro (HA.out.2.1.later b1 (Nat.le_refl _)) (And.intro a1 (HA.out.2.2.trans (b1.mono HA.out.2.2.size))))); have cs := H1.out.1.v6_cell; have cd := H1.out.2.1.v6_cell; clear a1 b1 z1)
  refine (KP.out _).mono ?_
  rintro e w' ⟨rfl, rfl⟩
  go_wp2_with fail
  go_loop [12, 13] (fun b i => ∃ (j : Nat) (bad : Bool), j ≤ m ∧ b = .bool bad ∧ i = .int .i64 j ∧ (bad = true → ¬ may6 true true proto zs n) ∧ (bad = false → ∀ (t : Nat) (k : Int), t < j → zs[t]? = some k → ext k ∧ (k = 0 → t = 0))) (fun _ i => m - (intOf i).toNat)
  case atStart => exact ⟨0, false, Nat.zero_le _, rfl, rfl, (fun h => by cases h), fun _ t k h => absurd h (by omega)⟩
  case round =>
    obtain ⟨j, bad, hj, rfl, rfl, hbad, hgood⟩ := hrel
    cases bad with
    | true =>
      have HNO := Lib.hid (hbad rfl)
      clear hbad hgood
      by_cases hlt : j < m
      · have hjd : decide ((j : Int) < (m : Int)) = true := decide_eq_true (by omega)
        go_wp2_with fail
        refine (help_bare 1 _).mono ?_
        rintro e w2 ⟨rfl, b2⟩
        have H2 := Lib.hid (And.intro (H1.out.2.2.1.later b2 (Nat.le_refl _)) (H1.out.2.2.2.trans (b2.mono H1.out.2.2.2.size)))
        have hg : w.heap.size ≤ W.heap.size := HA.out.2.2.size
        clear b2
        go_wp2_with (refine wpList_store_fl rfl (.tmp 11) (.tmp 79) rfl 1 0 false rfl rfl H2.out.1 ?_; intro w3 a3 o3 z3 b3; have H3 := Lib.hid (And.intro a3 (b3 w.heap.size w hg H2.out.2)); clear a3 o3 z3 b3)
        exact bodyPost_ret (results_tmp_fl rfl _ rfl H3.out.1) rfl (bldF_no HNO.out H3.out.2)
      · have hjd : decide ((j : Int) < (m : Int)) = false := decide_eq_false (by omega)
        go_wp2_with fail
        refine (help_bare 1 _).mono ?_
        rintro e w2 ⟨rfl, b2⟩
        have H2 := Lib.hid (And.intro (H1.out.2.2.1.later b2 (Nat.le_refl _)) (H1.out.2.2.2.trans (b2.mono H1.out.2.2.2.size)))
        have hg : w.heap.size ≤ W.heap.size := HA.out.2.2.size
        clear b2
        go_wp2_with (refine wpList_store_fl rfl (.tmp 11) (.tmp 79) rfl 1 0 false rfl rfl H2.out.1 ?_; intro w3 a3 o3 z3 b3; have H3 := Lib.hid (And.intro a3 (b3 w.heap.size w hg H2.out.2)); clear a3 o3 z3 b3)
        exact bodyPost_ret (results_tmp_fl rfl _ rfl H3.out.1) rfl (bldF_no HNO.out H3.out.2)
    | false =>
      have HG := Lib.hid (hgood rfl)
      clear hbad hgood
      by_cases hlt : j < m
      · have hjd : decide ((j : Int) < (m : Int)) = true := decide_eq_true (by omega)
        obtain ⟨z, hzk⟩ : ∃ z, zs[j]? = some z := ⟨zs[j]'(by rw [HL.out]; exact hlt), List.getElem?_eq_getElem _⟩
        obtain ⟨b, off, rfl, hc⟩ := (HB.out.2.later H1.out.2.2.2 (Nat.le_refl _)).get (zv_at hzk)
        have KZ := fun w => ref_extends z w
        have HZ := Lib.hid hzk
        clear hzk
        by_cases hx : ext z
        · rw [decide_eq_true hx] at KZ
          have KZ := Lib.hid KZ
          by_cases hz0 : z = 0
          · subst hz0
            by_cases hj0 : 0 < j
            · have hj0d : decide ((0 : Int) < (j : Int)) = true := decide_eq_true (by omega)
              have HNO := Lib.hid (show ¬ may6 true true proto zs n from fun h => by have := (h.2.2.2.2.2.1 j 0 HZ.out).2 rfl; omega)
              clear hx
              go_wp2_with fail
              refine (KZ.out _).mono ?_
              rintro e w' ⟨rfl, rfl⟩
              go_wp2_with fail
              exact ⟨⟨j + 1, true, by omega, rfl, by go_num, fun _ => HNO.out, (fun h => by cases h)⟩, by simp [intOf]; omega⟩
            · obtain rfl : j = 0 := by omega
              rw [Nat.add_zero] at hc
              have HG2 := Lib.hid (show ∀ (t : Nat) (k : Int), t < 0 + 1 → zs[t]? = some k → ext k ∧ (k = 0 → t = 0) from fun t k ht hk => by
                obtain rfl : t = 0 := by omega
                obtain rfl := Option.some.inj (HZ.out.symm.trans hk)
                exact ⟨hx, fun _ => rfl⟩)
              clear hx
              go_wp2_with fail
              refine (KZ.out _).mono ?_
              rintro e w' ⟨rfl, rfl⟩
              go_wp2_with fail
              exact ⟨⟨0 + 1, false, by omega, rfl, by go_num, (fun h => by cases h), fun _ => HG2.out⟩, by simp [intOf]; omega⟩
          · have hz0b : (z == 0) = false := by simpa using hz0
            have HG2 := Lib.hid (show ∀ (t : Nat) (k : Int), t < j + 1 → zs[t]? = some k → ext k ∧ (k = 0 → t = 0) from fun t k ht hk => by
              rcases Nat.lt_or_ge t j with h | h
              · exact HG.out t k h hk
              · obtain rfl : t = j := by omega
                obtain rfl := Option.some.inj (HZ.out.symm.trans hk)
                exact ⟨hx, fun h => absurd h hz0⟩)
            clear hx
            go_wp2_with fail
            refine (KZ.out _).mono ?_
            rintro e w' ⟨rfl, rfl⟩
            go_wp2_with fail
            exact ⟨⟨j + 1, false, by omega, rfl, by go_num, (fun h => by cases h), fun _ => HG2.out⟩, by simp [intOf]; omega⟩
        · rw [decide_eq_false hx] at KZ
          have KZ := Lib.hid KZ
          have HNO := Lib.hid (show ¬ may6 true true proto zs n from fun h => hx (h.2.2.2.2.2.1 j z HZ.out).1)
          clear hx
          go_wp2_with fail
          refine (KZ.out _).mono ?_
          rintro e w' ⟨rfl, rfl⟩
          go_wp2_with fail
          exact ⟨⟨j + 1, true, by omega, rfl, by go_num, fun _ => HNO.out, (fun h => by cases h)⟩, by simp [intOf]; omega⟩
      · obtain rfl : j = m := by omega
        have hjd : decide ((j : Int) < (j : Int)) = false := decide_eq_false (by omega)
        by_cases hbig : 65535 < 8 * j + n
        · have hqd : decide ((65535 : Int) < 8 * (j : Int) + (n : Int)) = true := decide_eq_true (by omega)
          have hq : (65535 : Int) < 8 * (j : Int) + (n : Int) := by omega
          have HNO := Lib.hid (show ¬ may6 true true proto zs n from fun h => by have := h.2.2.2.2.2.2; rw [HL.out] at this; omega)
          go_wp2_with fail
          refine (help_bare 1 _).mono ?_
          rintro e w2 ⟨rfl, b2⟩
          have H2 := Lib.hid (And.intro (H1.out.2.2.1.later b2 (Nat.le_refl _)) (H1.out.2.2.2.trans (b2.mono H1.out.2.2.2.size)))
          have hg : w.heap.size ≤ W.heap.size := HA.out.2.2.size
          clear b2
          go_wp2_with (refine wpList_store_fl rfl (.tmp 11) (.tmp 79) rfl 1 0 false rfl rfl H2.out.1 ?_; intro w3 a3 o3 z3 b3; have H3 := Lib.hid (And.intro a3 (b3 w.heap.size w hg H2.out.2)); clear a3 o3 z3 b3)
          exact bodyPost_ret (results_tmp_fl rfl _ rfl H3.out.1) rfl (bldF_no HNO.out H3.out.2)
        · have hqd : decide ((65535 : Int) < 8 * (j : Int) + (n : Int)) = false := decide_eq_false (by omega)
          have hq : ¬ (65535 : Int) < 8 * (j : Int) + (n : Int) := by omega
          have HY := Lib.hid (show may6 true true proto zs n from ⟨rfl, rfl, ⟨by omega, by omega⟩, HX.out, by rw [HL.out]; omega, fun i y hy => HG.out i y (by have := (List.getElem?_eq_some_iff.1 hy).1; rw [HL.out] at this; exact this) hy, by rw [HL.out]; omega⟩)
          go_wp2_with (first
            | (at_builtin; refine wpList_append_gs rfl (.tmp 81) (.tmp 83) 26 rfl w1.heap.size 3 infoInt rfl (by omega) Tryd.underlying26 _ j (zv zs) rfl (H2.out.1.alloc _) _ 1 1 (zv [proto]) rfl (by exact Gs.lit _ (zv [proto]) 1 rfl (by unfold maxLen; omega) #[.int .i64 proto] rfl _) (zv_one _) (by omega) (by have := H2.out.2.size; simp; omega) ?_; intro v3 w3 o3 g3)
            | (at_builtin; refine wpList_append_gs rfl (.const (.slice none 0 0)) (.tmp 80) 26 rfl w1.heap.size 3 infoInt rfl (by omega) Tryd.underlying26 (.slice none 0 0) 0 [] rfl (World.ownsRow_nil _ _ _ _) B j d (zv zs) rfl (HB.out.2.later H1.out.2.2.2 (Nat.le_refl _)) (zv_one _) (by omega) (Nat.le_refl _) ?_; intro v2 w2 o2 g2; have b2 : Below w1.heap.size w1 w2 := (Below.refl _ w1).grown g2 (Nat.le_refl _) (fun q hq => by cases hq); have H2 := Lib.hid (And.intro (owns_n (n' := j) (by omega) o2) b2); clear o2 g2 b2))
          have b3 : Below w1.heap.size w1 w3 := (H2.out.2.alloc H2.out.2.size _).grown g3 (by have := H2.out.2.size; simp; omega) (fun x hx => (H2.out.1.lt x hx).1)
          obtain ⟨Ak, ck, rfl, hK⟩ := Gs.of_own (n := j + 1) (l := zv (zs ++ [proto])) (by rw [zv_append]; exact o3)
          obtain ⟨gk, ok, rfl, hck⟩ := hK.here (by omega)
          have H3 := Lib.hid (And.intro hK (And.intro (H1.out.1.later b3 (Nat.le_refl _)) (And.intro (H1.out.2.1.later b3 (Nat.le_refl _)) (And.intro (H1.out.2.2.1.later b3 (Nat.le_refl _)) (H1.out.2.2.2.trans (b3.mono H1.out.2.2.2.size))))))
          have hkcap := hK.cap
          have hkmax := hK.max
          unfold maxLen at hkmax
          clear o3 g3 b3 hK hck
          go_wp2_with fail
          have B4 : Below w3.heap.size w3 (w3.alloc (.cells #[.int .u8 96, .int .u8 0, .int .u8 0, .int .u8 0] 5)) := (Below.refl _ _).alloc (Nat.le_refl _) _
          have hl4 := Bs.lit w3 [96, 0, 0, 0] 4 rfl (by unfold maxLen; omega) #[.int .u8 96, .int .u8 0, .int .u8 0, .int .u8 0] rfl 5
          generalize hgl : w3.heap.size = q3 at hl4 ⊢
          rw [hgl] at B4
          generalize w3.alloc (.cells #[.int .u8 96, .int .u8 0, .int .u8 0, .int .u8 0] 5) = w4 at B4 hl4 ⊢
          rw [← hgl] at B4
          have H4 := Lib.hid (And.intro (H3.out.1.later B4 (Nat.le_refl _)) (And.intro (H3.out.2.1.later B4 (Nat.le_refl _)) (And.intro (H3.out.2.2.1.later B4 (Nat.le_refl _)) (And.intro (H3.out.2.2.2.1.later B4 (Nat.le_refl _)) (H3.out.2.2.2.2.trans (B4.mono H3.out.2.2.2.2.size))))))
          clear B4 hgl
          refine (ref_put hl4 (8 * (j : Int) + (n : Int)) 2 (by omega) (by omega)).mono ?_
          rintro e w5 ⟨v5, rfl, o5, b5⟩
          have H5 := Lib.hid (And.intro o5 b5)
          clear o5 b5 hl4
          obtain ⟨k0, hk0⟩ : ∃ k0, (zs ++ [proto])[0]? = some k0 := ⟨_, List.getElem?_eq_getElem (by simp)⟩
          obtain ⟨gk', ok', e', hc0⟩ := H4.out.1.get (zv_at hk0)
          cases e'
          rw [Nat.add_zero] at hc0
          have hcK : ∀ w', Below w4.heap.size w4 w' → w'.cell? ⟨gk, ok, none⟩ = some (.int .i64 k0) := fun w' h => by
            rw [h.cell (p := ⟨gk, ok, none⟩) (lt_of_cell' hc0), hc0]
          go_wp2_with fail
          have hS : Below w4.heap.size w4 w5.drew := H5.out.2.drew
          refine rg_begin (fun w' => Below w4.heap.size w4 w') 14 (by kernel_rfl) rfl ?_
          refine rg_take 0 (v := ?rv1) rfl (by kernel_rfl) (by kernel_rfl) (by kernel_rfl) (fun _ _ _ h => h) (by rfl) hS (fun w2 hw2 => ?ry1) ?rr1
          case ry1 => ((try dsimp only at hw2); go_simp <;> with_reducible rfl)
          simp only [Act.put, List.setIfInBounds_toArray, List.set_cons_zero, List.set_cons_succ]
          refine rg_take 1 (v := ?rv2) rfl (by kernel_rfl) (by kernel_rfl) (by kernel_rfl) (fun _ _ _ h => h) (by rfl) hS (fun w2 hw2 => ?ry2) ?rr2
          case ry2 => ((try dsimp only at hw2); go_simp <;> with_reducible rfl)
          simp only [Act.put, List.setIfInBounds_toArray, List.set_cons_zero, List.set_cons_succ]
          refine rg_take 7 (v := ?rv3) rfl (by kernel_rfl) (by kernel_rfl) (by kernel_rfl) (fun _ _ _ h => h) (by rfl) hS (fun w2 hw2 => ?ry3) ?rr3
          case ry3 => ((try dsimp only at hw2); go_simp <;> with_reducible rfl)
          simp only [Act.put, List.setIfInBounds_toArray, List.set_cons_zero, List.set_cons_succ]
          refine rg_take 10 (v := ?rv4) rfl (by kernel_rfl) (by kernel_rfl) (by kernel_rfl) (fun _ _ _ h => h) (by rfl) hS (fun w2 hw2 => ?ry4) ?rr4
          case ry4 => ((try dsimp only at hw2); go_simp <;> with_reducible rfl)
          simp only [Act.put, List.setIfInBounds_toArray, List.set_cons_zero, List.set_cons_succ]
          refine rg_take 2 (v := ?rv5) rfl (by kernel_rfl) (by kernel_rfl) (by kernel_rfl) (fun _ _ _ h => h) (by rfl) hS (fun w2 hw2 => ?ry5) ?rr5
          case ry5 => ((try dsimp only at hw2); go_simp <;> with_reducible rfl)
          simp only [Act.put, List.setIfInBounds_toArray, List.set_cons_zero, List.set_cons_succ]
          refine rg_take 8 (v := ?rv6) rfl (by kernel_rfl) (by kernel_rfl) (by kernel_rfl) (fun _ _ _ h => h) (by rfl) hS (fun w2 hw2 => ?ry6) ?rr6
          case ry6 => ((try dsimp only at hw2); go_simp <;> with_reducible rfl)
          simp only [Act.put, List.setIfInBounds_toArray, List.set_cons_zero, List.set_cons_succ]
          refine rg_take 11 (v := ?rv7) rfl (by kernel_rfl) (by kernel_rfl) (by kernel_rfl) (fun _ _ _ h => h) (by rfl) hS (fun w2 hw2 => ?ry7) ?rr7
          case ry7 => ((try dsimp only at hw2); go_simp <;> with_reducible rfl)
          simp only [Act.put, List.setIfInBounds_toArray, List.set_cons_zero, List.set_cons_succ]
          refine rg_take 3 (v := ?rv8) rfl (by kernel_rfl) (by kernel_rfl) (by kernel_rfl) (fun _ _ _ h => h) (by rfl) hS (fun w2 hw2 => ?ry8) ?rr8
          case ry8 => ((try dsimp only at hw2); go_simp <;> with_reducible rfl)
          simp only [Act.put, List.setIfInBounds_toArray, List.set_cons_zero, List.set_cons_succ]
          refine rg_take 4 (v := ?rv9) rfl (by kernel_rfl) (by kernel_rfl) (by kernel_rfl) (fun _ _ _ h => h) (by rfl) hS (fun w2 hw2 => ?ry9) ?rr9
          case ry9 => ((try dsimp only at hw2); go_simp <;> with_reducible rfl)
          simp only [Act.put, List.setIfInBounds_toArray, List.set_cons_zero, List.set_cons_succ]
          refine rg_step 5 rfl (by kernel_rfl) (by rfl) (fun K hK => ?_)
          go_simp
          have l2 := (Bs.lit w5 [ub k0, 64] 2 rfl (by unfold maxLen; omega) #[.int .u8 (IntKind.u8.wrap k0), .int .u8 64] (ub_lit k0) 5).later ((Below.refl _ _).drew) (Nat.le_refl _)
          have oW := own_kept H5.out.1 ((Below.refl w5.heap.size w5).alloc (Nat.le_refl _) (.cells #[.int .u8 (IntKind.u8.wrap k0), .int .u8 64] 5)).drew
          replace hS : Below w4.heap.size w4 (w5.alloc (.cells #[.int .u8 (IntKind.u8.wrap k0), .int .u8 64] 5)).drew := (H5.out.2.alloc H5.out.2.size _).drew
          generalize (w5.alloc (.cells #[.int .u8 (IntKind.u8.wrap k0), .int .u8 64] 5)).drew = W6 at l2 oW hS ⊢
          refine hK.out _ _ hS ?_
          clear hK K
          try simp only [Act.put, List.setIfInBounds_toArray, List.set_cons_zero, List.set_cons_succ]
          refine rg_step 6 rfl (by kernel_rfl) (by rfl) (fun K hK => ?_)
          refine wp_append_bs (.tmp 93) (.tmp 98) 22 rfl w4.heap.size 5 info5 Tryd.underlying22 _ _ _ rfl oW _ 2 2 _ rfl l2 (by omega) hS.size ?_
          intro v7 w7 o7 g7 n7 a7
          replace hS := hS.grown g7 hS.size (fun q hq => (oW.lt q hq).1)
          have H7 := Lib.hid o7
          clear o7 g7 n7 a7 oW l2
          refine hK.out _ _ hS ?_
          clear hK K
          try simp only [Act.put, List.setIfInBounds_toArray, List.set_cons_zero, List.set_cons_succ]
          refine rg_step 9 rfl (by kernel_rfl) (by rfl) (fun K hK => ?_)
          refine wp_append_bs (.tmp 99) (.tmp 101) 22 rfl w4.heap.size 5 info5 Tryd.underlying22 _ _ _ rfl H7.out _ 16 16 _ rfl (H4.out.2.1.later hS (Nat.le_refl _)).bytes (by omega) hS.size ?_
          intro v8 w8 o8 g8 n8 a8
          replace hS := hS.grown g8 hS.size (fun q hq => (H7.out.lt q hq).1)
          have H8 := Lib.hid o8
          clear o8 g8 n8 a8
          refine hK.out _ _ hS ?_
          clear hK K
          try simp only [Act.put, List.setIfInBounds_toArray, List.set_cons_zero, List.set_cons_succ]
          refine rg_step 12 rfl (by kernel_rfl) (by rfl) (fun K hK => ?_)
          refine wp_append_bs (.tmp 102) (.tmp 104) 22 rfl w4.heap.size 5 info5 Tryd.underlying22 _ _ _ rfl H8.out _ 16 16 _ rfl (H4.out.2.2.1.later hS (Nat.le_refl _)).bytes (by omega) hS.size ?_
          intro v9 w9 o9 g9 n9 a9
          replace hS := hS.grown g9 hS.size (fun q hq => (H8.out.lt q hq).1)
          have hfl : [96, 0, 0, 0] ++ putn (8 * (j : Int) + (n : Int)) 2 ++ [ub k0, 64] ++ sb ++ db = first40 sb db proto zs n := by
            have hf0 : firstk zs proto = k0 := by unfold firstk List.getD; rw [hk0]; rfl
            unfold first40
            rw [hf0, HL.out, show ((8 * j + n : Nat) : Int) = 8 * (j : Int) + (n : Int) by omega]
          rw [hfl] at o9
          have H9 := Lib.hid (And.intro (owns_n (n' := 40) (by omega) o9) hS)
          clear o9 g9 n9 a9 hfl
          refine hK.out _ _ hS ?_
          clear hK K
          try simp only [Act.put, List.setIfInBounds_toArray, List.set_cons_zero, List.set_cons_succ]
          refine rg_take 13 (v := ?rv10) rfl (by kernel_rfl) (by kernel_rfl) (by kernel_rfl) (fun _ _ _ h => h) (by rfl) hS (fun w2 hw2 => ?ry10) ?rr10
          case ry10 => ((try dsimp only at hw2); go_simp <;> with_reducible rfl)
          simp only [Act.put, List.setIfInBounds_toArray, List.set_cons_zero, List.set_cons_succ]
          refine rg_done (by kernel_rfl) ?_
          clear hS hcK hc0 hk0
          have hlen : (zs ++ [proto]).length = j + 1 := by simp [HL.out]
          have HLen := Lib.hid hlen
          clear hlen
          go_wp2_with fail
          go_loopw [15, 16] (fun h i wr => ∃ k : Nat, k ≤ j ∧ i = .int .i64 k ∧ wr.ownsRow w4.heap.size 5 1 h (40 + 8 * k) (bv (first40 sb db proto zs n ++ headsv (((zs ++ [proto]).drop 1).take k))) ∧ Below w4.heap.size w4 wr) (fun _ i _ => j - (intOf i).toNat)
          case atStart => exact ⟨0, Nat.zero_le _, rfl, by simpa [headsv] using H9.out.1, H9.out.2⟩
          case round =>
            obtain ⟨k, hk, rfl, ho, hb⟩ := hrel
            by_cases hlt : k < j
            · have hj1 : k + 1 < (zs ++ [proto]).length := by rw [HLen.out]; omega
              have hzj := List.getElem?_eq_getElem hj1
              generalize (zs ++ [proto])[k + 1] = z at hzj
              obtain ⟨gk', ok', e', hcz⟩ := (H4.out.1.later hb (Nat.le_refl _)).get (zv_at hzj)
              cases e'
              have hz2 : ((zs ++ [proto]).drop 1)[k]? = some z := by rw [List.getElem?_drop, Nat.add_comm]; exact hzj
              have hsz := hb.size
              have HT := Lib.hid (And.intro ho (And.intro hb (headsv_take hz2)))
              clear ho hb hz2 hzj hj1
              go_wp2_with (at_builtin; refine wpList_append_bs rfl (.tmp 112) (.tmp 119) 22 rfl w4.heap.size 5 info5 Tryd.underlying22 _ _ _ rfl (HT.out.1.alloc _) _ 8 8 _ rfl (by exact Bs.lit _ (ub z :: List.replicate 7 0) 8 rfl (by unfold maxLen; omega) _ (ub_lit8 z) _) (by omega) (by simp; omega) ?_; intro v7 w7 o7 g7 n7 a7)
              have b7 : Below w4.heap.size w4 w7 := (HT.out.2.1.alloc hsz _).grown g7 (by simp; omega) (fun q hq => (HT.out.1.lt q hq).1)
              have H10 := Lib.hid (And.intro o7 b7)
              clear o7 g7 n7 a7 b7
              go_wp2_with fail
              refine ⟨⟨_, _, _, _, _, _, _, _, _, _, _, _, _, _, _, _, _, ?rel, rfl⟩, ?_⟩
              case rel =>
                refine ⟨k + 1, hlt, by go_num, ?_, H10.out.2⟩
                rw [HT.out.2.2, ← List.append_assoc]
                exact owns_n (by omega) H10.out.1
              simp [intOf]
              omega
            · obtain rfl : k = j := by omega
              rw [List.take_of_length_le (by rw [List.length_drop, HLen.out]; omega)] at ho
              have HT := Lib.hid (And.intro ho hb)
              clear ho hb
              have hWl := H4.out.2.2.2.1.lt
              have hg : w.heap.size ≤ W.heap.size := HA.out.2.2.size
              go_wp2_with (first
                | (at_builtin; refine wpList_append_bs rfl (.tmp 121) (.tmp 122) 22 rfl w4.heap.size 5 info5 Tryd.underlying22 _ _ _ rfl HT.out.1 A n c l rfl (HB.out.1.later (H4.out.2.2.2.2.trans (HT.out.2.mono H4.out.2.2.2.2.size)) (Nat.le_refl _)) (by omega) HT.out.2.size ?_; intro v7 w7 o7 g7 n7 a7; have b7 : Below w4.heap.size w4 w7 := HT.out.2.grown g7 HT.out.2.size (fun q hq => (HT.out.1.lt q hq).1); have H10 := Lib.hid (And.intro o7 (And.intro (H4.out.2.2.2.1.later b7 (Nat.le_refl _)) (H4.out.2.2.2.2.trans (b7.mono H4.out.2.2.2.2.size)))); clear o7 g7 n7 a7 b7)
                | (refine wpList_store_fl rfl (.tmp 11) (.tmp 124) rfl 0 0 false rfl rfl H10.out.2.1 ?_; intro w8 a8 o8 z8 b8; have H11 := Lib.hid (And.intro a8 (And.intro (own_same H10.out.1 fun k hk => o8 k (by omega)) (b8 w.heap.size w hg H10.out.2.2))); clear a8 o8 z8 b8))
              obtain ⟨A8, c8, rfl, hB8⟩ := Bs.of_own H11.out.2.1
              exact bodyPost_ret (results_tmp_fl rfl _ rfl H11.out.1) rfl (bldF_yes HY.out (by unfold built6; exact hB8) H11.out.2.2)
end Go.Proofs.YtceigepclemdmaaDoor
