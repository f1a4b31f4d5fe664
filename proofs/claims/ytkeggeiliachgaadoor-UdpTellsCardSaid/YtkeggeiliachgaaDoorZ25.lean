/-
  slices.Chunk at bytes, two at a time: its iterator's contract. Conditions: those of the slice.
  sum.added: the numbers of two bytes, added. Conditions: those of the slice; 2^47 bytes at most.
-/
import Derived.RangeFuncNested
import Derived.RangeFuncBound
import Derived.RangeFuncCalls
import Derived.RangeFuncLeaves
import Derived.RangeFuncBox
import Derived.Shelf.Abstract
import Derived.Shelf.RegionOpen
import Derived.WalkKit
import Derived.OwnWalkIn
import Derived.TacticsInMore
import Derived.LoopNIn
import Derived.LoopIn
import Derived.RegionIn
import Derived.Lib.Hide
import Derived.Test.YtkeggeiliachgaaDoorChecked
import Derived.Test.YtkeggeiliachgaaDoorZ02
import Derived.Test.YtkeggeiliachgaaDoorZ01
import Derived.Maps.AppendAt
namespace Go.Proofs.YtkeggeiliachgaaDoor
open Go.RowKit Go.Shelf

attribute [local go_sem] Oper.semAt_some

/-- The k-th stretch of two bytes, as the iterator hands it out: behind the end an empty one. -/
def chunkV (b off n k : Nat) : Value := .slice (some ⟨b, off + 2 * k, none⟩) (min 2 (n - 2 * k)) (min 2 (n - 2 * k))

/-- Two blocks lie as they lay. -/
structure Two (x y : Nat) (A B : World) : Prop where
  fst : B.heap[x]? = A.heap[x]?
  snd : B.heap[y]? = A.heap[y]?
theorem Two.refl (x y : Nat) (A : World) : Two x y A A := ⟨rfl, rfl⟩
theorem Two.trans {x y : Nat} {A B C : World} (h : Two x y A B) (k : Two x y B C) : Two x y A C := ⟨k.fst.trans h.fst, k.snd.trans h.snd⟩
theorem Two.drew {x y : Nat} {A B : World} (h : Two x y A B) : Two x y A B.drew := ⟨h.fst, h.snd⟩
theorem Two.cell1 {x y : Nat} {A B : World} (h : Two x y A B) (o : Nat) : B.cell? ⟨x, o, none⟩ = A.cell? ⟨x, o, none⟩ := World.cell?_of_block (w := A) h.fst
theorem Two.cell2 {x y : Nat} {A B : World} (h : Two x y A B) (o : Nat) : B.cell? ⟨y, o, none⟩ = A.cell? ⟨y, o, none⟩ := World.cell?_of_block (w := A) h.snd
theorem Two.setCell {x y : Nat} {A B : World} (h : Two x y A B) {p : Addr} (hx : x ≠ p.block) (hy : y ≠ p.block) (v : Value) : Two x y A (B.setCell p v) := ⟨(Below.heap_setCell _ _ _ _ hx).trans h.fst, (Below.heap_setCell _ _ _ _ hy).trans h.snd⟩
theorem two_b {x y : Nat} {w : World} (hx : x < w.heap.size) (hy : y < w.heap.size) (W : World) (l : Nat) (o o' : Obj) (hl : w.heap.size ≤ l) (_ : W.heap[l]? = some o) (_ : o.isCells = false) (_ : o.isWalk = false) : Two x y W (W.putObj l o') :=
  ⟨World.putObj_heap_other (by omega), World.putObj_heap_other (by omega)⟩

set_option maxRecDepth 100000 in
set_option maxHeartbeats 2000000 in
theorem chunk1_in (F : Fence) (N : Nat) (h7 : F.fn 56) (hro : F.round = none) (hn : 1 ≤ N) (l Bs Bn b off n c : Nat) (hnc : n ≤ c) (hmx : n ≤ 140737488355328) (J Jx : List Nat → World → Prop) (W : World) (hJ : AbidesFrom W.heap.size J)
    (hY : ∀ pre x W1, J pre W1 → pre.length < (n + 1) / 2 → YieldAt F (N - 1) Tryd.prog l #[chunkV b off n x] W1 fun e W' =>
      (e = .returned (.bool true) ∧ J (pre ++ [x]) W' ∧ Two Bs Bn W1 W') ∨ (e = .returned (.bool false) ∧ Jx (pre ++ [x]) W'))
    (hBs : W.cell? ⟨Bs, 0, none⟩ = some (.slice (some ⟨b, off, none⟩) n c)) (hBn : W.cell? ⟨Bn, 0, none⟩ = some (.int .i64 2)) (h0 : J [] W) :
    CallsIn F N Tryd.prog 56 #[.func (.yield l) #[] #[], .pointer (some ⟨Bs, 0, none⟩), .pointer (some ⟨Bn, 0, none⟩)] W fun e W' => (∃ v, e = .returned v) ∧
      ((∃ ys, ys = List.range ((n + 1) / 2) ∧ J ys W') ∨ (∃ pre, (∃ k, k ≤ (n + 1) / 2 ∧ pre = List.range k) ∧ Jx pre W')) := by
  refine callsIn_of_wp Tryd.func56 rfl h7 ?_ hro
  simp only [Tryd.ntmps56, List.size_toArray, List.length_cons, List.length_nil, Nat.reduceAdd, Nat.reduceSub, Array.replicate_succ, Array.replicate_zero, List.push_toArray, List.append_toArray, List.nil_append, List.cons_append]
  gi_wp2
  gi_loopw [4] (fun i wr => ∃ k j : Nat, j = 2 * k ∧ k ≤ (n + 1) / 2 ∧ i = .int .i64 j ∧ J (List.range k) wr ∧ Two Bs Bn W wr)
    (fun i _ => n + 2 - (intOf i).toNat)
  case atStart => exact ⟨0, 0, rfl, Nat.zero_le _, rfl, h0, Two.refl _ _ _⟩
  case round =>
    obtain ⟨k, j, hj, hk, rfl, hJs, hnx⟩ := hrel
    have hs1 : wr.cell? ⟨Bs, 0, none⟩ = some (.slice (some ⟨b, off, none⟩) n c) := (hnx.cell1 0).trans hBs
    have hs2 : wr.cell? ⟨Bn, 0, none⟩ = some (.int .i64 2) := (hnx.cell2 0).trans hBn
    have hJd : J (List.range k) wr.drew := hJ _ _ _ none hJs ⟨rfl, rfl, rfl, Nat.le_refl _, fun _ _ _ => rfl⟩ (fun _ e => by cases e)
    by_cases hlt : j < n
    · by_cases h2 : j + 2 ≤ n
      · have hck : chunkV b off n k = .slice (some ⟨b, off + j, none⟩) 2 2 := by unfold chunkV; rw [← hj, Nat.min_eq_left (by omega)]
        obtain ⟨fn, tmps, assign, body, hy, hR⟩ := hY _ k wr.drew hJd (by rw [List.length_range]; omega)
        rw [hck] at hy
        have HK := Lib.hid (And.intro hj (And.intro hk hnx))
        have hR' := Lib.hid hR
        have hm : (2 : Int) ≤ ((n - j : Nat) : Int) := by omega
        clear hBs hBn hY hj hk hck hJs hJd hnx hR
        gi_wp2
        gi_region
        all_goals
          gi_wp2
          refine hR'.out.mono ?_
          rintro e W3 (⟨rfl, hJ3, hk3⟩ | ⟨rfl, hJx3⟩)
          · have HW := Lib.hid (And.intro hJ3 hk3)
            have hs3 : W3.cell? ⟨Bn, 0, none⟩ = some (.int .i64 2) := (hk3.cell2 0).trans hs2
            clear hJ3 hk3
            gi_wp2
            go_roundw
            case rel => exact ⟨k + 1, j + 2, by have := HK.out.1; omega, by have := HK.out.1; omega, by go_num, by rw [List.range_succ]; exact HW.out.1, HK.out.2.2.drew.trans HW.out.2⟩
            case measure => simp [intOf]; omega
          · gi_wp2
            refine bodyPost_ret (results_none rfl _ _ _) rfl ?_
            exact ⟨⟨_, rfl⟩, .inr ⟨_, ⟨k + 1, by have := HK.out.1; omega, List.range_succ.symm⟩, hJx3⟩⟩
      · obtain rfl : n = j + 1 := by omega
        have hck : chunkV b off (j + 1) k = .slice (some ⟨b, off + j, none⟩) 1 1 := by unfold chunkV; rw [← hj, show j + 1 - j = 1 by omega]; rfl
        obtain ⟨fn, tmps, assign, body, hy, hR⟩ := hY _ k wr.drew hJd (by rw [List.length_range]; omega)
        rw [hck] at hy
        have HK := Lib.hid (And.intro hj (And.intro hk hnx))
        have hR' := Lib.hid hR
        clear hBs hBn hY hj hk hck hJs hJd hnx hR
        gi_wp2
        gi_region
        all_goals
          gi_wp2
          refine hR'.out.mono ?_
          rintro e W3 (⟨rfl, hJ3, hk3⟩ | ⟨rfl, hJx3⟩)
          · have HW := Lib.hid (And.intro hJ3 hk3)
            have hs3 : W3.cell? ⟨Bn, 0, none⟩ = some (.int .i64 2) := (hk3.cell2 0).trans hs2
            clear hJ3 hk3
            gi_wp2
            go_roundw
            case rel => exact ⟨k + 1, j + 2, by have := HK.out.1; omega, by have := HK.out.1; omega, by go_num, by rw [List.range_succ]; exact HW.out.1, HK.out.2.2.drew.trans HW.out.2⟩
            case measure => simp [intOf]; omega
          · gi_wp2
            refine bodyPost_ret (results_none rfl _ _ _) rfl ?_
            exact ⟨⟨_, rfl⟩, .inr ⟨_, ⟨k + 1, by have := HK.out.1; omega, List.range_succ.symm⟩, hJx3⟩⟩
    · have hk2 : k = (n + 1) / 2 := by omega
      have HK := Lib.hid (And.intro hk2 hJs)
      clear hk2 hJs hJd hBs hBn hY hj
      gi_wp2
      go_end0
      exact ⟨⟨_, rfl⟩, .inl ⟨_, rfl, by rw [← HK.out.1]; exact HK.out.2⟩⟩

set_option maxRecDepth 100000 in
set_option maxHeartbeats 1000000 in
/-- .. of no byte: no round. -/
theorem chunk1_nil_in (F : Fence) (N : Nat) (h7 : F.fn 56) (hro : F.round = none) (l Bs Bn : Nat) (A : Option Addr) (c : Nat) (J : List Nat → World → Prop) (W : World) (hBs : W.cell? ⟨Bs, 0, none⟩ = some (.slice A 0 c)) (h0 : J [] W) :
    CallsIn F N Tryd.prog 56 #[.func (.yield l) #[] #[], .pointer (some ⟨Bs, 0, none⟩), .pointer (some ⟨Bn, 0, none⟩)] W fun e W' => (∃ v, e = .returned v) ∧ J [] W' := by
  refine callsIn_of_wp Tryd.func56 rfl h7 ?_ hro
  simp only [Tryd.ntmps56, List.size_toArray, List.length_cons, List.length_nil, Nat.reduceAdd, Nat.reduceSub, Array.replicate_succ, Array.replicate_zero, List.push_toArray, List.append_toArray, List.nil_append, List.cons_append]
  gi_wp2
  gi_loopw [4] (fun i wr => i = .int .i64 0 ∧ wr.cell? ⟨Bs, 0, none⟩ = some (.slice A 0 c) ∧ J [] wr) (fun _ _ => 0)
  case atStart => exact ⟨rfl, hBs, h0⟩
  case round =>
    obtain ⟨rfl, hc, hJs⟩ := hrel
    clear hBs
    gi_wp2
    go_end0
    exact ⟨⟨_, rfl⟩, hJs⟩
set_option maxHeartbeats 1000000 in
/-- slices.Chunk(b, 2): slice and number are boxed; the function value captures the boxes. -/
theorem chunk_in (F : Fence) (N : Nat) (h5 : F.fn 51) (hro : F.round = none) (A : Option Addr) (n c : Nat) (w : World) :
    CallsIn F N Tryd.prog 51 #[.slice A n c, .int .i64 2] w fun e w' => e = .returned (.func (.func 56) #[] #[.pointer (some ⟨w.heap.size, 0, none⟩), .pointer (some ⟨w.heap.size + 1, 0, none⟩)]) ∧ w' = (w.alloc (.cells #[.slice A n c] 22)).alloc (.cells #[.int .i64 2] 3) := by
  refine callsIn_of_wp Tryd.func51 rfl h5 ?_ hro
  simp only [Tryd.ntmps51, List.size_toArray, List.length_cons, List.length_nil, Nat.reduceAdd, Nat.reduceSub, Array.replicate_succ, Array.replicate_zero, List.push_toArray, List.append_toArray, List.nil_append, List.cons_append]
  gi_wp2
  go_ret
  exact ⟨rfl, rfl⟩

/-- The iterator hands out each stretch, in order. -/
theorem chunk_stops (F : Fence) (N : Nat) (h7 : F.fn 56) (hro : F.round = none) (hn : 1 ≤ N) (Bs Bn b off n c : Nat) (hnc : n ≤ c) (hmx : n ≤ 140737488355328) (w : World) (hBs : Bs < w.heap.size) (hBn : Bn < w.heap.size)
    (hc : w.cell? ⟨Bs, 0, none⟩ = some (.slice (some ⟨b, off, none⟩) n c)) (hk : w.cell? ⟨Bn, 0, none⟩ = some (.int .i64 2)) :
    SeqStopsK F N Tryd.prog 56 #[.pointer (some ⟨Bs, 0, none⟩), .pointer (some ⟨Bn, 0, none⟩)] (fun k : Nat => #[chunkV b off n k]) (Two Bs Bn) (fun ys => ys = List.range ((n + 1) / 2)) (fun pre => ∃ k, k ≤ (n + 1) / 2 ∧ pre = List.range k) ((n + 1) / 2) w := fun l J Jx W hW hJ _ hY h0 => by
  have hc' := (hW.cell (p := ⟨Bs, 0, none⟩) hBs).trans hc
  have hk' := (hW.cell (p := ⟨Bn, 0, none⟩) hBn).trans hk
  exact chunk1_in F N h7 hro hn l Bs Bn b off n c hnc hmx J Jx W hJ hY hc' hk' h0
end Go.Proofs.YtkeggeiliachgaaDoor

namespace Go.Proofs.YtkeggeiliachgaaDoor
open Go.RowKit Go.Shelf

attribute [local go_sem] Oper.semAt_some

/-- What the stretches of two add up to. -/
def sumc (l : List UInt8) (ks : List Nat) : Nat := (ks.map fun k => tot ((l.drop (2 * k)).take 2)).sum
theorem sumc_snoc (l : List UInt8) (ks : List Nat) (k : Nat) : sumc l (ks ++ [k]) = sumc l ks + tot ((l.drop (2 * k)).take 2) := by simp [sumc]
theorem tot_two_le (l : List UInt8) : tot (l.take 2) ≤ 65535 := by
  match l with
  | [] => simp [tot]
  | [x] => have := x.toNat_lt; simp [tot]; omega
  | x :: y :: r => have := x.toNat_lt; have := y.toNat_lt; simp [tot]; omega
theorem sumc_le (l : List UInt8) (ks : List Nat) : sumc l ks ≤ 65535 * ks.length := by
  induction ks with
  | nil => simp [sumc]
  | cons k ks ih => have := tot_two_le (l.drop (2 * k)); simp [sumc] at ih ⊢; omega
theorem sumc_range (l : List UInt8) : ∀ (k : Nat), 2 * k ≤ l.length + 1 → sumc l (List.range k) = tot (l.take (2 * k)) := by
  intro k
  induction k with
  | zero => intro _; simp [sumc, tot]
  | succ k ih =>
    intro h
    rw [List.range_succ, sumc_snoc, ih (by omega), ← tot_append _ _ (by rw [List.length_take]; omega), show 2 * (k + 1) = 2 * k + 2 by omega, List.take_add]
theorem sumc_all (l : List UInt8) : sumc l (List.range ((l.length + 1) / 2)) = tot l := by
  rw [sumc_range _ _ (by omega), List.take_of_length_le (by omega)]
theorem tot_at2 (l : List UInt8) (k : Nat) (x y : UInt8) (hx : l[2 * k]? = some x) (hy : l[2 * k + 1]? = some y) : tot ((l.drop (2 * k)).take 2) = x.toNat * 256 + y.toNat := by
  obtain ⟨h1, e1⟩ := List.getElem?_eq_some_iff.1 hx
  obtain ⟨h2, e2⟩ := List.getElem?_eq_some_iff.1 hy
  rw [List.drop_eq_getElem_cons h1, List.drop_eq_getElem_cons h2, e1, e2]
  simp [tot]
theorem tot_at1 (l : List UInt8) (k : Nat) (x : UInt8) (hl : l.length = 2 * k + 1) (hx : l[2 * k]? = some x) : tot ((l.drop (2 * k)).take 2) = x.toNat * 256 := by
  obtain ⟨h1, e1⟩ := List.getElem?_eq_some_iff.1 hx
  rw [List.drop_eq_getElem_cons h1, e1, List.drop_of_length_le (by omega)]
  simp [tot]
theorem tot_at0 (l : List UInt8) (k : Nat) (hl : l.length ≤ 2 * k) : tot ((l.drop (2 * k)).take 2) = 0 := by
  rw [List.drop_of_length_le hl]; rfl

theorem u64_small (a : Nat) (h : a < 18446744073709551616) : IntKind.u64.wrap (a : Int) = a := by
  show (a : Int) % 18446744073709551616 = a
  omega
theorem u64_shift (y : UInt8) : IntKind.u64.wrap (IntKind.u64.wrap (y.toNat : Int) * 256) = ((y.toNat * 256 : Nat) : Int) := by
  have := y.toNat_lt
  rw [u64_small _ (by omega), show (y.toNat : Int) * 256 = ((y.toNat * 256 : Nat) : Int) by omega, u64_small _ (by omega)]
/-- A number stored in a box of the call's own, and a draw. -/
theorem stored {W w : World} {u : Value} (v : Value) (hc : W.cell? ⟨w.heap.size, 0, none⟩ = some u) (hf : W.frozen? ⟨w.heap.size, 0, none⟩ = false) {W1 : World} (hW1 : (W.setCell ⟨w.heap.size, 0, none⟩ v).drew = W1) :
    W1.cell? ⟨w.heap.size, 0, none⟩ = some v ∧ W1.frozen? ⟨w.heap.size, 0, none⟩ = false ∧ Below w.heap.size W W1 ∧ KeepsOthers W W1 ∧ Two (w.heap.size + 1) (w.heap.size + 1 + 1) W W1 := by
  subst hW1
  refine ⟨World.cell?_setCell_same' _ _ _ (by rw [hc]; rfl), ?_, ((Below.refl w.heap.size W).setCell (p := ⟨w.heap.size, 0, none⟩) (Nat.le_refl _) v).drew, (KeepsOthers.setCell _ _ _).trans (KeepsOthers.drew _), ((Two.refl _ _ W).setCell (p := ⟨w.heap.size, 0, none⟩) (by simp) (by simp; omega) v).drew⟩
  rw [frozen_drew_own, World.frozen?_setCell]; exact hf

set_option maxRecDepth 100000 in
set_option maxHeartbeats 4000000 in
theorem added_some_in (F : Fence) (N : Nat) (h3 : F.fn 40) (h5 : F.fn 51) (h7 : F.fn 56) (hro : F.round = none) (hN : 3 ≤ N) {b off n c : Nat} {l : List UInt8} {w : World} (hb : Bs w (some ⟨b, off, none⟩) n c l) (h47 : n ≤ 140737488355328) :
    CallsIn F N Tryd.prog 40 #[.slice (some ⟨b, off, none⟩) n c] w fun e W' => e = .returned (.int .u64 (tot l)) ∧ Below w.heap.size w W' := by
  have h1 : 1 ≤ N := by omega
  have hl := hb.len
  have hnc := hb.cap
  have HB := Lib.hid hb
  have HL := Lib.hid hl
  clear hb hl
  refine callsIn_of_wp_marks Tryd.func40 rfl h3 ?_ hro
  simp only [Tryd.ntmps40, List.size_toArray, List.length_cons, List.length_nil, Nat.reduceAdd, Nat.reduceSub, Array.replicate_succ, Array.replicate_zero, List.push_toArray, List.append_toArray, List.nil_append, List.cons_append]
  gi_wp2_with (gi_at_call 51; refine (chunk_in F (N - 1) h5 hro _ _ _ _).mono ?_; rintro e w' ⟨rfl, rfl⟩)
  have bS := Boxed.new w 78 (.int .u64 0)
  have bA := (Boxed.new (w.alloc (.cells #[.int .u64 0] 78)) 22 (.slice (some ⟨b, off, none⟩) n c)).alloc (.cells #[.int .i64 2] 3)
  have bN := Boxed.new ((w.alloc (.cells #[.int .u64 0] 78)).alloc (.cells #[.slice (some ⟨b, off, none⟩) n c] 22)) 3 (.int .i64 2)
  rw [World.size_alloc] at bA
  rw [World.size_alloc, World.size_alloc] at bN
  have hB0 : Below w.heap.size w (((w.alloc (.cells #[.int .u64 0] 78)).alloc (.cells #[.slice (some ⟨b, off, none⟩) n c] 22)).alloc (.cells #[.int .i64 2] 3)) := (((Below.refl _ w).alloc (Nat.le_refl _) _).alloc (by simp) _).alloc (by simp; omega) _
  refine wpIn_rangeFunc_ownG hro h1 (gf := 56) (lb := #[.pointer (some ⟨w.heap.size + 1, 0, none⟩), .pointer (some ⟨w.heap.size + 1 + 1, 0, none⟩)]) rfl h7 (enters_of Tryd.func56 (by kernel_rfl) rfl)
    (chunk_stops F (N - 1) h7 hro (by omega) (w.heap.size + 1) (w.heap.size + 1 + 1) b off n c hnc h47 _ (by simp) (by simp) bA.cell bN.cell) (fun h k => h.trans k) (two_b (by simp) (by simp)) (Below.refl _ _) (fun _ => rfl)
    (fun pre W => (W.cell? ⟨w.heap.size, 0, none⟩ = some (.int .u64 (sumc l pre)) ∧ W.frozen? ⟨w.heap.size, 0, none⟩ = false) ∧ Below w.heap.size w W)
    (fun _ _ _ => False)
    (OwnFrom.and (Own.from (fun s A B row hs hg hr => ⟨cell_kept hs.1 hg hr, (frozen_kept hs.1 hg hr).trans hs.2⟩) _) (ownFrom_below (Nat.le_refl _) (by simp; omega)))
    (fun _ _ _ _ _ hs _ _ => hs)
    ⟨⟨((bS.alloc _).alloc _).cell, ((bS.alloc _).alloc _).frozen⟩, hB0⟩
    (fun x => { tmps := #[.slice (some ⟨b, off, none⟩) n c, undef, .int .u64 0, .pointer (some ⟨w.heap.size, 0, none⟩), chunkV b off n x, .slice (some ⟨b, off, none⟩) n c, .func (.func 56) #[] #[.pointer (some ⟨w.heap.size + 1, 0, none⟩), .pointer (some ⟨w.heap.size + 1 + 1, 0, none⟩)], chunkV b off n x, undef, undef, undef, undef, undef, undef, undef, undef, undef, undef, undef, undef, undef, undef, undef, undef, undef, undef, undef, undef], defers := [] }) ?assign ?body ?done ?stop
  case assign =>
    intro l x W K hK
    gi_wp2
    exact hK
  case body =>
    rintro l1 pre x W ⟨⟨hc, hf⟩, hB⟩ hlen
    have hsum := sumc_le l pre
    have hlim : sumc l pre ≤ 9223372036854775807 - 65535 := by omega
    have hmx : Tryd.prog.follows .mixedOrders = true := by kernel_rfl
    have hd : 1 ≤ N - 1 - 1 := by omega
    have hW := HB.out.later hB (Nat.le_refl _)
    clear bS bA bN hB0
    by_cases h2 : 2 * x + 2 ≤ n
    · have hv : chunkV b off n x = .slice (some ⟨b, off + 2 * x, none⟩) 2 2 := by unfold chunkV; rw [Nat.min_eq_left (by omega)]
      rw [hv]
      obtain ⟨b1, off1, e1, c1⟩ := hW.get (k := 2 * x) (by omega)
      obtain ⟨b2, off2, e2, c2⟩ := hW.get (k := 2 * x + 1) (by omega)
      cases e1
      cases e2
      have hbw : b < w.heap.size := by have := HB.out.get (k := 2 * x) (by omega); obtain ⟨b3, off3, e3, c3⟩ := this; cases e3; exact lt_of_cell' c3
      have ht := tot_at2 l x _ _ (List.getElem?_eq_getElem (by have := HL.out; omega)) (List.getElem?_eq_getElem (by have := HL.out; omega))
      generalize l[2 * x]'(by have := HL.out; omega) = y1 at c1 ht
      generalize l[2 * x + 1]'(by have := HL.out; omega) = y2 at c2 ht
      have HT := Lib.hid (And.intro ht (And.intro hB hlen))
      clear ht hv hW hsum hB hlen
      have c2' : W.cell? ⟨b, off + 2 * x + 1, none⟩ = some (.int .u8 y2.toNat) := c2
      have l1 := y1.toNat_lt
      have l2 := y2.toNat_lt
      clear c2
      gi_wp2
      gi_region_with_o (fail)
      all_goals
        rw [u64_small y2.toNat (by omega), show ((sumc l pre : Int) + (y2.toNat : Int)) = ((sumc l pre + y2.toNat : Nat) : Int) by omega, u64_small (sumc l pre + y2.toNat) (by omega)]
        generalize hW1 : (W.setCell ⟨w.heap.size, 0, none⟩ (.int .u64 (sumc l pre + y2.toNat : Nat))).drew = W1
        obtain ⟨hc1, hf1, hb1, hk1, ht1⟩ := stored _ hc hf hW1
        have c3 : W1.cell? ⟨b, off + 2 * x, none⟩ = some (.int .u8 y1.toNat) := (hb1.cell (p := ⟨b, off + 2 * x, none⟩) hbw).trans c1
        have e2 : IntKind.u64.wrap ((sumc l pre : Int) + (y2.toNat : Int) + IntKind.u64.wrap (IntKind.u64.wrap (y1.toNat : Int) * 256)) = (sumc l (pre ++ [x]) : Int) := by
          rw [sumc_snoc, HT.out.1, u64_shift, show ((sumc l pre : Int) + (y2.toNat : Int) + ((y1.toNat * 256 : Nat) : Int)) = ((sumc l pre + (y1.toNat * 256 + y2.toNat) : Nat) : Int) by omega, u64_small _ (by omega)]
        have H1 := Lib.hid (And.intro hb1 (And.intro hk1 (And.intro ht1 e2)))
        clear hW1 hb1 hk1 ht1 c1 c2' hc hf e2
        gi_wp2
        gi_region_with_o (fail)
      all_goals
        rw [H1.out.2.2.2]
        generalize hW2 : (W1.setCell ⟨w.heap.size, 0, none⟩ (.int .u64 (sumc l (pre ++ [x])))).drew = W2
        obtain ⟨hc2, hf2, hb2, hk2, ht2⟩ := stored _ hc1 hf1 hW2
        have H2 := Lib.hid (And.intro hc2 (And.intro hf2 (And.intro hb2 (And.intro hk2 ht2))))
        clear hW2 hc2 hf2 hb2 hk2 ht2 hc1 hf1
        gi_wp2
        exact ⟨(H1.out.2.1.trans H2.out.2.2.2.1).from _, H1.out.2.2.1.trans H2.out.2.2.2.2, ⟨H2.out.1, H2.out.2.1⟩, HT.out.2.1.trans (H1.out.1.trans H2.out.2.2.1)⟩
    · by_cases h3 : 2 * x + 1 = n
      · have hv : chunkV b off n x = .slice (some ⟨b, off + 2 * x, none⟩) 1 1 := by unfold chunkV; rw [show n - 2 * x = 1 by omega]; rfl
        rw [hv]
        obtain ⟨b1, off1, e1, c1⟩ := hW.get (k := 2 * x) (by omega)
        cases e1
        have hbw : b < w.heap.size := by have := HB.out.get (k := 2 * x) (by omega); obtain ⟨b3, off3, e3, c3⟩ := this; cases e3; exact lt_of_cell' c3
        have ht := tot_at1 l x _ (by have := HL.out; omega) (List.getElem?_eq_getElem (by have := HL.out; omega))
        generalize l[2 * x]'(by have := HL.out; omega) = y1 at c1 ht
        have l1 := y1.toNat_lt
        have e2 : IntKind.u64.wrap ((sumc l pre : Int) + IntKind.u64.wrap (IntKind.u64.wrap (y1.toNat : Int) * 256)) = (sumc l (pre ++ [x]) : Int) := by
          rw [sumc_snoc, ht, u64_shift, show ((sumc l pre : Int) + ((y1.toNat * 256 : Nat) : Int)) = ((sumc l pre + y1.toNat * 256 : Nat) : Int) by omega, u64_small _ (by omega)]
        have HT := Lib.hid (And.intro e2 (And.intro hB hlen))
        clear ht hv hW hsum hB hlen e2 h2 h3
        gi_wp2
        gi_region_with_o (fail)
        all_goals
          rw [HT.out.1]
          generalize hW2 : (W.setCell ⟨w.heap.size, 0, none⟩ (.int .u64 (sumc l (pre ++ [x])))).drew = W2
          obtain ⟨hc2, hf2, hb2, hk2, ht2⟩ := stored _ hc hf hW2
          have H2 := Lib.hid (And.intro hc2 (And.intro hf2 (And.intro hb2 (And.intro hk2 ht2))))
          clear hW2 hc2 hf2 hb2 hk2 ht2 hc hf
          gi_wp2
          exact ⟨H2.out.2.2.2.1.from _, H2.out.2.2.2.2, ⟨H2.out.1, H2.out.2.1⟩, HT.out.2.1.trans H2.out.2.2.1⟩
      · have hv : chunkV b off n x = .slice (some ⟨b, off + 2 * x, none⟩) 0 0 := by unfold chunkV; rw [show n - 2 * x = 0 by omega]; rfl
        rw [hv]
        have e2 : sumc l (pre ++ [x]) = sumc l pre := by rw [sumc_snoc, tot_at0 l x (by have := HL.out; omega), Nat.add_zero]
        rw [← e2] at hc
        have HT := Lib.hid (And.intro hc (And.intro hf hB))
        clear hv hW hsum hB hlen e2 h2 h3 hc hf
        gi_wp2
        exact ⟨KeepsFrom.refl _ _, Two.refl _ _ _, ⟨HT.out.1, HT.out.2.1⟩, HT.out.2.2⟩
  case done =>
    rintro D ys W hD rfl ⟨⟨hc, _⟩, hB⟩ hK
    have hy : sumc l (List.range ((n + 1) / 2)) = tot l := by rw [← HL.out]; exact sumc_all l
    rw [hy] at hc
    clear hy
    gi_wp2
    refine ⟨by simp, .inl ⟨_, _, rfl, run_takeDeferred hK, ?_⟩⟩
    exact ⟨_, results_tmp rfl _ _ _, rfl, hB.trans (belowK_b (w := w) (Nat.le_refl _) W D _ _ (by simp at hD; omega) hK rfl rfl)⟩
  case stop =>
    rintro D c pre W _ _ h _
    exact h.elim

/-- .. of no byte. -/
theorem chunk_stops_nil (F : Fence) (N : Nat) (h7 : F.fn 56) (hro : F.round = none) (Bs Bn : Nat) (A : Option Addr) (c : Nat) (w : World) (hBs : Bs < w.heap.size) (hc : w.cell? ⟨Bs, 0, none⟩ = some (.slice A 0 c)) :
    SeqStopsK F N Tryd.prog 56 #[.pointer (some ⟨Bs, 0, none⟩), .pointer (some ⟨Bn, 0, none⟩)] (fun _ : Nat => #[Value.slice none 0 0]) (Two Bs Bn) (fun ys => ys = []) (fun _ => False) 0 w := fun l J _ W hW _ _ _ h0 =>
  (chunk1_nil_in F N h7 hro l Bs Bn A c J W ((hW.cell (p := ⟨Bs, 0, none⟩) hBs).trans hc) h0).mono fun _ _ ⟨he, hj⟩ => ⟨he, .inl ⟨_, rfl, hj⟩⟩

set_option maxRecDepth 100000 in
set_option maxHeartbeats 4000000 in
theorem added_zero_in (F : Fence) (N : Nat) (h3 : F.fn 40) (h5 : F.fn 51) (h7 : F.fn 56) (hro : F.round = none) (hN : 3 ≤ N) (A : Option Addr) (c : Nat) (w : World) :
    CallsIn F N Tryd.prog 40 #[.slice A 0 c] w fun e W' => e = .returned (.int .u64 0) ∧ Below w.heap.size w W' := by
  have h1 : 1 ≤ N := by omega
  refine callsIn_of_wp_marks Tryd.func40 rfl h3 ?_ hro
  simp only [Tryd.ntmps40, List.size_toArray, List.length_cons, List.length_nil, Nat.reduceAdd, Nat.reduceSub, Array.replicate_succ, Array.replicate_zero, List.push_toArray, List.append_toArray, List.nil_append, List.cons_append]
  gi_wp2_with (gi_at_call 51; refine (chunk_in F (N - 1) h5 hro _ _ _ _).mono ?_; rintro e w' ⟨rfl, rfl⟩)
  have bS := Boxed.new w 78 (.int .u64 0)
  have bA := (Boxed.new (w.alloc (.cells #[.int .u64 0] 78)) 22 (.slice A 0 c)).alloc (.cells #[.int .i64 2] 3)
  rw [World.size_alloc] at bA
  have hB0 : Below w.heap.size w (((w.alloc (.cells #[.int .u64 0] 78)).alloc (.cells #[.slice A 0 c] 22)).alloc (.cells #[.int .i64 2] 3)) := (((Below.refl _ w).alloc (Nat.le_refl _) _).alloc (by simp) _).alloc (by simp; omega) _
  refine wpIn_rangeFunc_ownG hro h1 (gf := 56) (lb := #[.pointer (some ⟨w.heap.size + 1, 0, none⟩), .pointer (some ⟨w.heap.size + 1 + 1, 0, none⟩)]) rfl h7 (enters_of Tryd.func56 (by kernel_rfl) rfl)
    (chunk_stops_nil F (N - 1) h7 hro (w.heap.size + 1) (w.heap.size + 1 + 1) A c _ (by simp) bA.cell) (fun h k => h.trans k) (two_b (by simp) (by simp)) (Below.refl _ _) (fun _ => rfl)
    (fun _ W => (W.cell? ⟨w.heap.size, 0, none⟩ = some (.int .u64 0) ∧ W.frozen? ⟨w.heap.size, 0, none⟩ = false) ∧ Below w.heap.size w W)
    (fun _ _ _ => False)
    (OwnFrom.and (Own.from (fun s A B row hs hg hr => ⟨cell_kept hs.1 hg hr, (frozen_kept hs.1 hg hr).trans hs.2⟩) _) (ownFrom_below (Nat.le_refl _) (by simp; omega)))
    (fun _ _ _ _ _ hs _ _ => hs)
    ⟨⟨((bS.alloc _).alloc _).cell, ((bS.alloc _).alloc _).frozen⟩, hB0⟩
    (fun x => { tmps := #[.slice A 0 c, undef, .int .u64 0, .pointer (some ⟨w.heap.size, 0, none⟩), .slice none 0 0, .slice A 0 c, .func (.func 56) #[] #[.pointer (some ⟨w.heap.size + 1, 0, none⟩), .pointer (some ⟨w.heap.size + 1 + 1, 0, none⟩)], .slice none 0 0, undef, undef, undef, undef, undef, undef, undef, undef, undef, undef, undef, undef, undef, undef, undef, undef, undef, undef, undef, undef], defers := [] }) ?assign ?body ?done ?stop
  case assign =>
    intro l x W K hK
    gi_wp2
    exact hK
  case body =>
    rintro l1 pre x W _ hlen
    exact absurd hlen (Nat.not_lt_zero _)
  case done =>
    rintro D ys W hD rfl ⟨⟨hc, _⟩, hB⟩ hK
    gi_wp2
    refine ⟨by simp, .inl ⟨_, _, rfl, run_takeDeferred hK, ?_⟩⟩
    exact ⟨_, results_tmp rfl _ _ _, rfl, hB.trans (belowK_b (w := w) (Nat.le_refl _) W D _ _ (by simp at hD; omega) hK rfl rfl)⟩
  case stop =>
    rintro D c pre W _ _ h _
    exact h.elim

/-- sum.added, whatever slice. -/
theorem added_any {A : Option Addr} {n c : Nat} {l : List UInt8} {w : World} (hb : Bs w A n c l) (h47 : n ≤ 140737488355328) : Calls Tryd.prog 40 #[.slice A n c] w fun e W' => e = .returned (.int .u64 (tot l)) ∧ Below w.heap.size w W' := by
  refine (callsIn_wide (n := 3)).1 ?_
  rcases Nat.eq_zero_or_pos n with rfl | hn
  · have := List.eq_nil_of_length_eq_zero hb.len
    subst this
    exact added_zero_in Fence.wide 3 trivial trivial trivial rfl (by omega) A c w
  · obtain ⟨b, off, rfl, _⟩ := hb.here hn
    exact added_some_in Fence.wide 3 trivial trivial trivial rfl (by omega) hb h47

theorem closed_next (s : Nat) (hs : s < 18446744073709551616) : IntKind.u64.wrap ((s : Int) / 65536 + bits .and .u64 (s : Int) 65535) = ((s / 65536 + s % 65536 : Nat) : Int) := by
  have h1 : bits .and .u64 (s : Int) ((65535 : Nat) : Int) = ((s &&& 65535 : Nat) : Int) := u64_and_nat s 65535 hs (by omega)
  rw [show s &&& 65535 = s % 65536 from Nat.and_two_pow_sub_one_eq_mod s 16] at h1
  rw [show bits .and .u64 (s : Int) 65535 = ((s % 65536 : Nat) : Int) from h1, show (s : Int) / 65536 + ((s % 65536 : Nat) : Int) = ((s / 65536 + s % 65536 : Nat) : Int) by omega, u64_small _ (by omega)]
theorem ret_i64 {a b : Int} (h : a = b) : Ending.returned (.int .i64 a) = .returned (.int .i64 b) := by rw [h]
set_option maxRecDepth 100000 in
set_option maxHeartbeats 1000000 in
theorem closed_any (t : Nat) (ht : t < 18446744073709551616) (w : World) : Calls Tryd.prog 39 #[.int .u64 t] w fun e w' => e = .returned (.int .i64 (65535 - fold t : Nat)) ∧ w = w' := by
  have HT := Lib.hid ht
  clear ht
  go_enter Tryd.func39, Tryd.ntmps39
  go_wp2_with fail
  go_loop [0] (fun v => ∃ s : Nat, s ≤ t ∧ fold s = fold t ∧ v = .int .u64 s) (fun v => (intOf v).toNat)
  case atStart => exact ⟨t, Nat.le_refl _, rfl, rfl⟩
  case round =>
    obtain ⟨s, hs, hf, rfl⟩ := hrel
    have HF := Lib.hid hf
    clear hf
    by_cases h : 65535 < s
    · go_wp2_with fail
      rw [closed_next s (by have := HT.out; omega)]
      exact ⟨⟨s / 65536 + s % 65536, by omega, by rw [fold_step h]; exact HF.out, rfl⟩, by simp only [intOf]; omega⟩
    · go_wp2_with fail
      go_ret
      exact ⟨ret_i64 (by rw [← HF.out, fold_small (by omega)]; omega), rfl⟩

theorem i64_small (a : Nat) (h : a < 9223372036854775808) : wrap64 (a : Int) = a := by unfold wrap64; omega

end Go.Proofs.YtkeggeiliachgaaDoor
