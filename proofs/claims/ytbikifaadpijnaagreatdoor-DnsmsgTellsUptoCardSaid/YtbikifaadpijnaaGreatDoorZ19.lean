/-
  bytes.Clone, slices.Grow of nil, slices.Concat, at slices of bytes. Conditions: 2^47 bytes at most.
  octets.Put16, Put32: the bytes of a number behind some. Conditions: 2^47 bytes at most.
  stockaderef01.Put. Conditions: those of the slice; 2^47 bytes at most.
-/
import Derived.Test.YtbikifaadpijnaaGreatDoorZ12
import Derived.Test.YtbikifaadpijnaaGreatDoorChecked
import Derived.WalkKit
import Derived.Deep.LoopGhost
import Derived.Outline
import Derived.Lib.AppendZeros
import Derived.Lib.SliceRun
namespace Go.Proofs.YtbikifaadpijnaaGreatDoor
open Go.RowKit

theorem info5 : (Tryz.prog.info? 5).map (fun i => (i.zero, i.size, i.bytes)) = some (some (Value.int IntKind.u8 0), 1, 1) := by kernel_rfl

set_option maxRecDepth 100000 in
set_option maxHeartbeats 400000 in
theorem clone_any {A : Option Addr} {n c : Nat} {l : List UInt8} {w : World} (hb : Bs w A n c l) (h47 : n ≤ 140737488355328) : Calls Tryz.prog 124 #[.slice A n c] w fun e w' =>
    ∃ v', e = .returned v' ∧ w'.ownsRow w.heap.size 5 1 v' n (bv l) ∧ Below w.heap.size w w' := by
  have q22 : ∀ (w : World) (a : Option Addr) (n c n' c' : Nat), (binOp .eql 22 (.slice a n c) (.slice none n' c')).run Tryz.prog w = .ok (.bool a.isNone) w := fun w a n c n' c' => Lib.run_eql_slice_nil w _ _ a n c n' c' Tryz.underlying22
  cases A with
  | none =>
    obtain rfl := hb.none_ rfl
    obtain rfl : n = 0 := by have := hb.cap; omega
    obtain rfl := List.eq_nil_of_length_eq_zero hb.len
    go_enter Tryz.func124, Tryz.ntmps124
    go_wp2
    go_ret
    exact ⟨_, rfl, World.ownsRow_nil _ _ _ _, Below.refl _ _⟩
  | some ad =>
    have HB := Lib.hid hb
    clear hb
    go_enter Tryz.func124, Tryz.ntmps124
    go_wp2_with (at_builtin; refine wpList_append_bs rfl (.tmp 5) (.tmp 6) 22 rfl w.heap.size 5 info5 Tryz.underlying22 _ 0 [] rfl (World.ownsRow_made w #[] 0 (Nat.le_refl _) (Nat.zero_le _) rfl) (some ad) n c l rfl (HB.out.later ((Below.refl w.heap.size w).alloc (Nat.le_refl _) _) (Nat.le_refl _)) (by omega) (by simp) ?_; intro v1 w1 hown hg hnil hat)
    go_wp2
    go_ret
    exact ⟨v1, rfl, by simpa using hown, ((Below.refl _ w).alloc (Nat.le_refl _) _).grown hg (by simp) (fun k hk => Nat.le_of_eq (Option.some.inj hk))⟩

set_option maxRecDepth 100000 in
set_option maxHeartbeats 400000 in
theorem grow_nil (n : Nat) (w : World) (h47 : n ≤ 140737488355328) : Calls Tryz.prog 66 #[.slice none 0 0, .int .i64 n] w fun e w' =>
    ∃ v', e = .returned v' ∧ w'.ownsRow w.heap.size 5 1 v' 0 (bv []) ∧ Below w.heap.size w w' := by
  rcases Nat.eq_zero_or_pos n with hn | hn
  · subst hn
    go_enter Tryz.func66, Tryz.ntmps66
    go_wp2
    go_ret
    exact ⟨_, rfl, World.ownsRow_nil _ _ _ _, Below.refl _ _⟩
  · obtain ⟨i0, hi, hz, hz1, hz2⟩ := info_parts info5
    have hr := fun w => Lib.run_append_nil_zeros (P := Tryz.prog) w 22 3 22 5 i0 (.int .u8 0) .i64 .i64 Tryz.underlying22 Tryz.underlying3 hi hz n hn (by omega) (by omega) (by rw [hz2]; omega)
    have HR := Lib.hid hr
    have hge := grownCap_ge w n 0 5
    have hcm : grownCap w n 0 5 ≤ maxLen := grownCap_le_maxLen w n 0 5 (by unfold maxLen; omega)
    have HG := Lib.hid (And.intro hge hcm)
    have HZ := Lib.hid (And.intro hz1 hz2)
    clear hr hge hcm hz1 hz2
    go_enter Tryz.func66, Tryz.ntmps66
    go_wp2_with (at_builtin; refine Lib.wpList_append_run _ rfl (.tmp 20) (.tmp 21) 22 3 rfl _ _ rfl rfl _ _ (HR.out _) ?_)
    go_ret
    refine ⟨_, rfl, ?_, ((Below.refl _ w).alloc (Nat.le_refl _) _).drew⟩
    refine ⟨rfl, .inr ⟨_, _, _, rfl, Nat.le_refl _, heap_alloc_new w _, Nat.zero_le _, HG.out.2, ?_, by simp [bv]⟩⟩
    have := HG.out.1
    simp [size_zeroCells]
    omega

/-- Parts, as slices.Concat is handed them. -/
structure Piece where
  A : Option Addr
  n : Nat
  c : Nat
  l : List UInt8
def Piece.v (p : Piece) : Value := .slice p.A p.n p.c
def total (ps : List Piece) : Nat := (ps.map (·.n)).sum
def flat (ps : List Piece) : List UInt8 := ps.flatMap (·.l)
/-- Parts that stand in a block, one behind the other. -/
def Pieces (w : World) (g : Nat) (ps : List Piece) : Prop := ∀ i p, ps[i]? = some p → w.cell? ⟨g, i, none⟩ = some (.slice p.A p.n p.c) ∧ Bs w p.A p.n p.c p.l
theorem Pieces.later {w w' : World} {g B : Nat} {ps : List Piece} (h : Pieces w g ps) (hb : Below B w w') (hB : w.heap.size ≤ B) : Pieces w' g ps := fun i p hp => by
  obtain ⟨h1, h2⟩ := h i p hp
  exact ⟨by rw [hb.cell (p := ⟨g, i, none⟩) (by have := lt_of_cell' h1; show g < B; simp at this; omega), h1], h2.later hb hB⟩
theorem total_take {ps : List Piece} {k : Nat} (h : k < ps.length) : total (ps.take (k + 1)) = total (ps.take k) + ps[k].n := by
  rw [List.take_succ_eq_append_getElem h]; unfold total; rw [List.map_append, List.sum_append]; simp
theorem flat_take {ps : List Piece} {k : Nat} (h : k < ps.length) : flat (ps.take (k + 1)) = flat (ps.take k) ++ ps[k].l := by
  rw [List.take_succ_eq_append_getElem h]; unfold flat; rw [List.flatMap_append]; simp
theorem total_le (ps : List Piece) (k : Nat) : total (ps.take k) ≤ total ps := by
  induction ps generalizing k with
  | nil => simp [total]
  | cons p ps ih =>
    cases k with
    | zero => simp [total]
    | succ k =>
      have := ih k
      simp [total] at this ⊢
      omega

set_option maxRecDepth 100000 in
set_option maxHeartbeats 1000000 in
theorem concat_any (g m c : Nat) (ps : List Piece) (w : World) (hm : ps.length = m) (hm1 : m ≤ 1000000) (hps : Pieces w g ps) (h47 : total ps ≤ 140737488355328) : Calls Tryz.prog 33 #[.slice (some ⟨g, 0, none⟩) m c] w fun e w' =>
    ∃ v', e = .returned v' ∧ w'.ownsRow w.heap.size 5 1 v' (total ps) (bv (flat ps)) ∧ Below w.heap.size w w' := by
  have HP := Lib.hid hps
  have HM := Lib.hid hm
  clear hps hm
  go_enter Tryz.func33, Tryz.ntmps33
  go_wp2_with fail
  go_loop [3, 11] (fun s i => ∃ k : Nat, k ≤ m ∧ i = .int .i64 k ∧ s = .int .i64 (total (ps.take k))) (fun _ i => m - (intOf i).toNat)
  case atStart => exact ⟨0, Nat.zero_le _, rfl, rfl⟩
  case round =>
    obtain ⟨k, hk, rfl, rfl⟩ := hrel
    by_cases hlt : k < m
    · have hkl : k < ps.length := by rw [HM.out]; exact hlt
      obtain ⟨h1, h2⟩ := HP.out k _ (List.getElem?_eq_getElem hkl)
      have ht := total_take hkl
      have hle := total_le ps (k + 1)
      generalize ps[k] = p at h1 h2 ht
      have ht1 : total (ps.take k) + p.n ≤ 140737488355328 := by omega
      have HT := Lib.hid ht
      clear ht hle h2
      go_wp2_with fail
      all_goals exact ⟨⟨k + 1, hlt, by go_num, by rw [HT.out]; go_num⟩, by simp [intOf]; omega⟩
    · obtain rfl : k = m := by omega
      have hk : ps.take k = ps := List.take_of_length_le (by rw [HM.out]; exact Nat.le_refl _)
      rw [hk]
      clear hk
      go_wp2_with fail
      refine (grow_nil (total ps) _ h47).mono ?_
      rintro e w1 ⟨v1, rfl, o1, b1⟩
      have H1 := Lib.hid (And.intro o1 b1)
      clear o1 b1
      go_wp2_with fail
      go_loopw [6, 27] (fun s i wr => ∃ j : Nat, j ≤ k ∧ i = .int .i64 j ∧ wr.ownsRow w.heap.size 5 1 s (total (ps.take j)) (bv (flat (ps.take j))) ∧ Below w.heap.size w wr) (fun _ i _ => k - (intOf i).toNat)
      case atStart => exact ⟨0, Nat.zero_le _, rfl, H1.out.1, H1.out.2⟩
      case round =>
        obtain ⟨j, hj, rfl, ho, hb⟩ := hrel
        by_cases hlt2 : j < k
        · have hkl : j < ps.length := by rw [HM.out]; exact hlt2
          obtain ⟨h1, h2⟩ := (HP.out.later hb (Nat.le_refl _)) j _ (List.getElem?_eq_getElem hkl)
          have ht := total_take hkl
          have hf := flat_take hkl
          have hle := total_le ps (j + 1)
          generalize ps[j] = p at h1 h2 ht hf
          have ht1 : total (ps.take j) + p.n ≤ 140737488355328 := by omega
          have HT := Lib.hid (And.intro ht (And.intro hf (And.intro h2 (And.intro ho hb))))
          have hsz := hb.size
          clear ht hle h2 hf ho hb
          go_wp2_with (at_builtin; refine wpList_append_bs rfl (.tmp 31) (.tmp 32) 22 rfl w.heap.size 5 info5 Tryz.underlying22 _ _ _ rfl HT.out.2.2.2.1 p.A p.n p.c p.l rfl HT.out.2.2.1 ht1 hsz ?_; intro v2 w2 o2 g2 n2 a2)
          have H2 := Lib.hid (And.intro o2 (HT.out.2.2.2.2.grown g2 hsz (fun q hq => (HT.out.2.2.2.1.lt q hq).1)))
          clear o2 g2 n2 a2
          go_wp2
          go_roundw
          case rel =>
            refine ⟨j + 1, hlt2, by go_num, ?_, H2.out.2⟩
            rw [HT.out.1, HT.out.2.1]
            exact H2.out.1
          case measure => simp [intOf]; omega
        · obtain rfl : j = k := by omega
          rw [List.take_of_length_le (show ps.length ≤ j by rw [HM.out]; exact Nat.le_refl _)] at ho
          have H3 := Lib.hid (And.intro ho hb)
          clear ho hb
          go_wp2
          go_ret
          exact ⟨_, rfl, H3.out.1, H3.out.2⟩
end Go.Proofs.YtbikifaadpijnaaGreatDoor

namespace Go.Proofs.YtbikifaadpijnaaGreatDoor
open Go.RowKit

/-- The lowest bytes of a number, so many, the highest first. -/
def putn (v : Int) : Nat → List UInt8
  | 0 => []
  | n + 1 => UInt8.ofNat ((v / 2 ^ (8 * n)) % 256).toNat :: putn v n
theorem putn_length (v : Int) (n : Nat) : (putn v n).length = n := by
  induction n with
  | zero => rfl
  | succ n ih => simp [putn, ih]
theorem byte_cell (x : Int) : ((UInt8.ofNat (x % 256).toNat).toNat : Int) = x % 256 := by
  have h : (x % 256).toNat < 256 := by omega
  simp only [UInt8.toNat_ofNat']
  omega

/-- Two parts, the second one a literal, as a call of slices.Concat lays them. -/
theorem pieces_lit {w : World} {A : Option Addr} {n c : Nat} {l : List UInt8} (hb : Bs w A n c l) (ys : List UInt8) (m : Nat) (hm : ys.length = m) (hmm : m ≤ maxLen) (cs : Array Value) (hcs : cs.toList = bv ys) (T U : TypeId) :
    Pieces ((w.alloc (.cells cs T)).alloc (.cells #[.slice A n c, .slice (some ⟨w.heap.size, 0, none⟩) m m] U)) (w.heap.size + 1) [⟨A, n, c, l⟩, ⟨some ⟨w.heap.size, 0, none⟩, m, m, ys⟩] := by
  have hb1 : Below w.heap.size w ((w.alloc (.cells cs T)).alloc (.cells #[.slice A n c, .slice (some ⟨w.heap.size, 0, none⟩) m m] U)) := ((Below.refl _ _).alloc (Nat.le_refl _) _).alloc (by simp) _
  intro i p hp
  match i, hp with
  | 0, hp =>
    obtain rfl := Option.some.inj hp.symm
    exact ⟨by rw [World.cell?_alloc_at _ _ _ _ (by simp)]; rfl, hb.later hb1 (Nat.le_refl _)⟩
  | 1, hp =>
    obtain rfl := Option.some.inj hp.symm
    refine ⟨by rw [World.cell?_alloc_at _ _ _ _ (by simp)]; rfl, hm, Nat.le_refl _, hmm, (fun h => by cases h), fun _ => ⟨_, _, rfl, fun i x hx => ?_⟩⟩
    rw [World.cell?_alloc_past _ _ _ (by simp), World.cell?_alloc_at _ _ _ _ rfl, ← Array.getElem?_toList, hcs, Nat.zero_add]
    unfold bv
    rw [List.getElem?_map, hx]
    rfl
  | k + 2, hp => simp at hp
set_option maxRecDepth 100000 in
set_option maxHeartbeats 400000 in
theorem put16_any {A : Option Addr} {n c : Nat} {l : List UInt8} {w : World} (hb : Bs w A n c l) (v : Int) (h47 : n ≤ 140737488350000) : Calls Tryz.prog 60 #[.slice A n c, .int .i64 v] w fun e w' =>
    ∃ v', e = .returned v' ∧ w'.ownsRow w.heap.size 5 1 v' (n + 2) (bv (l ++ putn v 2)) ∧ Below w.heap.size w w' := by
  have hp := pieces_lit hb (putn v 2) 2 (putn_length _ _) (by unfold maxLen; omega) #[.int .u8 (v / 256 % 256), .int .u8 (v % 256)] (by simp [putn, bv]; omega) 5 22
  have hc := concat_any (w.heap.size + 1) 2 2 _ _ rfl (by omega) hp (by simp [total]; omega)
  have HC := Lib.hid (And.intro hc trivial)
  have hq : Below w.heap.size w ((w.alloc (.cells #[.int .u8 (v / 256 % 256), .int .u8 (v % 256)] 5)).alloc (.cells #[.slice A n c, .slice (some ⟨w.heap.size, 0, none⟩) 2 2] 22)) := ((Below.refl _ _).alloc (Nat.le_refl _) _).alloc (by simp) _
  have HQ := Lib.hid hq
  clear hb hp hc hq
  go_enter Tryz.func60, Tryz.ntmps60
  go_wp2_with fail
  refine HC.out.1.mono ?_
  rintro e w1 ⟨v1, rfl, o1, b1⟩
  have H1 := Lib.hid (And.intro o1 b1)
  clear o1 b1
  go_wp2_with fail
  go_ret
  refine ⟨v1, rfl, ?_, HQ.out.trans (H1.out.2.mono HQ.out.size)⟩
  exact owns_base (by simpa [total, flat] using H1.out.1) (HQ.out.size)
set_option maxRecDepth 100000 in
set_option maxHeartbeats 400000 in
theorem put32_any {A : Option Addr} {n c : Nat} {l : List UInt8} {w : World} (hb : Bs w A n c l) (v : Int) (h0 : 0 ≤ v) (h32 : v < 4294967296) (h47 : n ≤ 140737488350000) : Calls Tryz.prog 65 #[.slice A n c, .int .u32 v] w fun e w' =>
    ∃ v', e = .returned v' ∧ w'.ownsRow w.heap.size 5 1 v' (n + 4) (bv (l ++ putn v 4)) ∧ Below w.heap.size w w' := by
  have hp := pieces_lit hb (putn v 4) 4 (putn_length _ _) (by unfold maxLen; omega) #[.int .u8 (v / 16777216), .int .u8 (v / 65536 % 256), .int .u8 (v / 256 % 256), .int .u8 (v % 256)] (by simp [putn, bv]; omega) 5 22
  have hc := concat_any (w.heap.size + 1) 2 2 _ _ rfl (by omega) hp (by simp [total]; omega)
  have HC := Lib.hid (And.intro hc trivial)
  have hq : Below w.heap.size w ((w.alloc (.cells #[.int .u8 (v / 16777216), .int .u8 (v / 65536 % 256), .int .u8 (v / 256 % 256), .int .u8 (v % 256)] 5)).alloc (.cells #[.slice A n c, .slice (some ⟨w.heap.size, 0, none⟩) 4 4] 22)) := ((Below.refl _ _).alloc (Nat.le_refl _) _).alloc (by simp) _
  have HQ := Lib.hid hq
  clear hb hp hc hq
  go_enter Tryz.func65, Tryz.ntmps65
  go_wp2_with fail
  refine HC.out.1.mono ?_
  rintro e w1 ⟨v1, rfl, o1, b1⟩
  have H1 := Lib.hid (And.intro o1 b1)
  clear o1 b1
  go_wp2_with fail
  go_ret
  refine ⟨v1, rfl, ?_, HQ.out.trans (H1.out.2.mono HQ.out.size)⟩
  exact owns_base (by simpa [total, flat] using H1.out.1) (HQ.out.size)
end Go.Proofs.YtbikifaadpijnaaGreatDoor

namespace Go.Proofs.YtbikifaadpijnaaGreatDoor
open Go.RowKit

theorem putn_step (v : Int) (n j : Nat) (hj : j < n) : putn v n = (putn v n).take (n - 1 - j) ++ (UInt8.ofNat ((v / 2 ^ (8 * j)) % 256).toNat :: putn v j) := by
  induction n with
  | zero => omega
  | succ n ih =>
    by_cases h : j = n
    · subst h
      simp [putn]
    · have := ih (by omega)
      rw [show n + 1 - 1 - j = (n - 1 - j) + 1 by omega]
      simp only [putn, List.take_succ_cons, List.cons_append]
      rw [← this]

set_option maxRecDepth 100000 in
set_option maxHeartbeats 1000000 in
theorem ref_put {A : Option Addr} {n c : Nat} {l : List UInt8} {w : World} (hb : Bs w A n c l) (v : Int) (k : Nat) (hk : k ≤ 4) (h47 : n ≤ 140737488350000) : Calls Tryz.prog 36 #[.slice A n c, .int .i64 v, .int .i64 k] w fun e w' =>
    ∃ v', e = .returned v' ∧ w'.ownsRow w.heap.size 5 1 v' (n + k) (bv (l ++ putn v k)) ∧ Below w.heap.size w w' := by
  have HB := Lib.hid hb
  clear hb
  go_enter Tryz.func36, Tryz.ntmps36
  go_wp2_with (at_builtin; refine wpList_append_bs rfl (.const (.slice none 0 0)) (.tmp 9) 22 rfl w.heap.size 5 info5 Tryz.underlying22 _ 0 [] rfl (World.ownsRow_nil _ _ _ _) A n c l rfl HB.out (by omega) (Nat.le_refl _) ?_; intro v1 w1 o1 g1 n1 a1)
  have b1 : Below w.heap.size w w1 := (Below.refl _ w).grown g1 (Nat.le_refl _) (fun q hq => by cases hq)
  have H1 := Lib.hid (And.intro o1 b1)
  clear o1 g1 n1 a1 b1
  go_wp2_with fail
  go_loopw [7, 8] (fun s i wr => ∃ j : Nat, j ≤ k ∧ i = .int .i64 ((j : Int) - 1) ∧ wr.ownsRow w.heap.size 5 1 s (n + (k - j)) (bv (l ++ (putn v k).take (k - j))) ∧ Below w.heap.size w wr) (fun _ i _ => (intOf i + 1).toNat)
  case atStart => exact ⟨k, Nat.le_refl _, rfl, by simpa using H1.out.1, H1.out.2⟩
  case round =>
    obtain ⟨j, hj, rfl, ho, hb⟩ := hrel
    rcases Nat.eq_zero_or_pos j with h0 | h0
    · subst h0
      rw [Nat.sub_zero, List.take_of_length_le (by rw [putn_length]; exact Nat.le_refl _)] at ho
      have H2 := Lib.hid (And.intro ho hb)
      clear ho hb
      go_wp2_with fail
      go_ret
      exact ⟨_, rfl, H2.out⟩
    · obtain ⟨i, rfl⟩ : ∃ i, j = i + 1 := ⟨j - 1, by omega⟩
      have hst := putn_step v k i (by omega)
      have htk : (putn v k).take (k - i) = (putn v k).take (k - (i + 1)) ++ [UInt8.ofNat ((v / 2 ^ (8 * i)) % 256).toNat] := by
        have hl : ((putn v k).take (k - 1 - i)).length = k - 1 - i := by rw [List.length_take, putn_length]; omega
        conv => lhs; rw [hst]
        rw [show k - (i + 1) = k - 1 - i by omega, List.take_append, List.take_of_length_le (by rw [hl]; omega), hl, show k - i - (k - 1 - i) = 1 by omega]
        rfl
      have hsz := hb.size
      have HT := Lib.hid (And.intro htk (And.intro ho hb))
      clear hst htk ho hb
      rw [show (((i + 1 : Nat) : Int) - 1) = (i : Int) by omega]
      rcases (show i = 0 ∨ i = 1 ∨ i = 2 ∨ i = 3 by omega) with rfl | rfl | rfl | rfl
      all_goals
        simp only [show (2 : Int) ^ (8 * 0) = 1 from rfl, show (2 : Int) ^ (8 * 1) = 256 from rfl, show (2 : Int) ^ (8 * 2) = 65536 from rfl, show (2 : Int) ^ (8 * 3) = 16777216 from rfl, Int.ediv_one] at HT
        go_wp2_with (at_builtin; refine wpList_append_bs rfl (.tmp 17) (.tmp 24) 22 rfl w.heap.size 5 info5 Tryz.underlying22 _ _ _ rfl (HT.out.2.1.alloc _) _ 1 1 _ rfl (by exact Bs.byte _ _ _) (by omega) (by simp; omega) ?_; intro v2 w2 o2 g2 n2 a2)
        have b2 : Below w.heap.size w w2 := (HT.out.2.2.alloc hsz _).grown g2 (by simp; omega) (fun q hq => (HT.out.2.1.lt q hq).1)
        have H2 := Lib.hid (And.intro o2 b2)
        clear o2 g2 n2 a2 b2
        go_wp2_with fail
        first
          | refine ⟨⟨0, by omega, rfl, ?_, H2.out.2⟩, by simp [intOf]⟩
          | refine ⟨⟨1, by omega, rfl, ?_, H2.out.2⟩, by simp [intOf]⟩
          | refine ⟨⟨2, by omega, rfl, ?_, H2.out.2⟩, by simp [intOf]⟩
          | refine ⟨⟨3, by omega, rfl, ?_, H2.out.2⟩, by simp [intOf]⟩
        rw [HT.out.1, ← List.append_assoc]
        refine owns_n ?_ H2.out.1
        omega
end Go.Proofs.YtbikifaadpijnaaGreatDoor
