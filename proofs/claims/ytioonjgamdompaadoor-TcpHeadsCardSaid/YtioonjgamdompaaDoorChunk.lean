/-
  slices.Chunk at bytes, two at a time: its iterator's contract. Conditions: those of the slice.
-/
import Derived.RangeFuncNested
import Derived.RangeFuncBound
import Derived.RangeFuncCalls
import Derived.RangeFuncLeaves
import Derived.RangeFuncBox
import Derived.Shelf.Abstract
import Derived.Shelf.RegionOpen
import Derived.WalkKit
import Derived.OwnWalkIn
import Derived.TacticsInMore
import Derived.LoopNIn
import Derived.LoopIn
import Derived.RegionIn
import Derived.Lib.Hide
import Derived.Test.YtioonjgamdompaaDoorChecked
import Derived.Test.YtioonjgamdompaaDoorBy
namespace Go.Proofs.YtioonjgamdompaaDoor
open Go.RowKit Go.Shelf

attribute [local go_sem] Oper.semAt_some

/-- The k-th stretch of two bytes, as the iterator hands it out: behind the end an empty one. -/
def chunkV (b off n k : Nat) : Value := .slice (some ⟨b, off + 2 * k, none⟩) (min 2 (n - 2 * k)) (min 2 (n - 2 * k))

/-- Two blocks lie as they lay. -/
structure Two (x y : Nat) (A B : World) : Prop where
  fst : B.heap[x]? = A.heap[x]?
  snd : B.heap[y]? = A.heap[y]?
theorem Two.refl (x y : Nat) (A : World) : Two x y A A := ⟨rfl, rfl⟩
theorem Two.trans {x y : Nat} {A B C : World} (h : Two x y A B) (k : Two x y B C) : Two x y A C := ⟨k.fst.trans h.fst, k.snd.trans h.snd⟩
theorem Two.drew {x y : Nat} {A B : World} (h : Two x y A B) : Two x y A B.drew := ⟨h.fst, h.snd⟩
theorem Two.cell1 {x y : Nat} {A B : World} (h : Two x y A B) (o : Nat) : B.cell? ⟨x, o, none⟩ = A.cell? ⟨x, o, none⟩ := World.cell?_of_block (w := A) h.fst
theorem Two.cell2 {x y : Nat} {A B : World} (h : Two x y A B) (o : Nat) : B.cell? ⟨y, o, none⟩ = A.cell? ⟨y, o, none⟩ := World.cell?_of_block (w := A) h.snd
theorem Two.setCell {x y : Nat} {A B : World} (h : Two x y A B) {p : Addr} (hx : x ≠ p.block) (hy : y ≠ p.block) (v : Value) : Two x y A (B.setCell p v) := ⟨(Below.heap_setCell _ _ _ _ hx).trans h.fst, (Below.heap_setCell _ _ _ _ hy).trans h.snd⟩
theorem two_b {x y : Nat} {w : World} (hx : x < w.heap.size) (hy : y < w.heap.size) (W : World) (l : Nat) (o o' : Obj) (hl : w.heap.size ≤ l) (_ : W.heap[l]? = some o) (_ : o.isCells = false) (_ : o.isWalk = false) : Two x y W (W.putObj l o') :=
  ⟨World.putObj_heap_other (by omega), World.putObj_heap_other (by omega)⟩

set_option maxRecDepth 100000 in
set_option maxHeartbeats 2000000 in
theorem chunk1_in (F : Fence) (N : Nat) (h7 : F.fn 56) (hro : F.round = none) (hn : 1 ≤ N) (l Bs Bn b off n c : Nat) (hnc : n ≤ c) (hmx : n ≤ 140737488355328) (J Jx : List Nat → World → Prop) (W : World) (hJ : AbidesFrom W.heap.size J)
    (hY : ∀ pre x W1, J pre W1 → pre.length < (n + 1) / 2 → YieldAt F (N - 1) Tryd.prog l #[chunkV b off n x] W1 fun e W' =>
      (e = .returned (.bool true) ∧ J (pre ++ [x]) W' ∧ Two Bs Bn W1 W') ∨ (e = .returned (.bool false) ∧ Jx (pre ++ [x]) W'))
    (hBs : W.cell? ⟨Bs, 0, none⟩ = some (.slice (some ⟨b, off, none⟩) n c)) (hBn : W.cell? ⟨Bn, 0, none⟩ = some (.int .i64 2)) (h0 : J [] W) :
    CallsIn F N Tryd.prog 56 #[.func (.yield l) #[] #[], .pointer (some ⟨Bs, 0, none⟩), .pointer (some ⟨Bn, 0, none⟩)] W fun e W' => (∃ v, e = .returned v) ∧
      ((∃ ys, ys = List.range ((n + 1) / 2) ∧ J ys W') ∨ (∃ pre, (∃ k, k ≤ (n + 1) / 2 ∧ pre = List.range k) ∧ Jx pre W')) := by
  refine callsIn_of_wp Tryd.func56 rfl h7 ?_ hro
  simp only [Tryd.ntmps56, List.size_toArray, List.length_cons, List.length_nil, Nat.reduceAdd, Nat.reduceSub, Array.replicate_succ, Array.replicate_zero, List.push_toArray, List.append_toArray, List.nil_append, List.cons_append]
  gi_wp2
  gi_loopw [4] (fun i wr => ∃ k j : Nat, j = 2 * k ∧ k ≤ (n + 1) / 2 ∧ i = .int .i64 j ∧ J (List.range k) wr ∧ Two Bs Bn W wr)
    (fun i _ => n + 2 - (intOf i).toNat)
  case atStart => exact ⟨0, 0, rfl, Nat.zero_le _, rfl, h0, Two.refl _ _ _⟩
  case round =>
    obtain ⟨k, j, hj, hk, rfl, hJs, hnx⟩ := hrel
    have hs1 : wr.cell? ⟨Bs, 0, none⟩ = some (.slice (some ⟨b, off, none⟩) n c) := (hnx.cell1 0).trans hBs
    have hs2 : wr.cell? ⟨Bn, 0, none⟩ = some (.int .i64 2) := (hnx.cell2 0).trans hBn
    have hJd : J (List.range k) wr.drew := hJ _ _ _ none hJs ⟨rfl, rfl, rfl, Nat.le_refl _, fun _ _ _ => rfl⟩ (fun _ e => by cases e)
    by_cases hlt : j < n
    · by_cases h2 : j + 2 ≤ n
      · have hck : chunkV b off n k = .slice (some ⟨b, off + j, none⟩) 2 2 := by unfold chunkV; rw [← hj, Nat.min_eq_left (by omega)]
        obtain ⟨fn, tmps, assign, body, hy, hR⟩ := hY _ k wr.drew hJd (by rw [List.length_range]; omega)
        rw [hck] at hy
        have HK := Lib.hid (And.intro hj (And.intro hk hnx))
        have hR' := Lib.hid hR
        have hm : (2 : Int) ≤ ((n - j : Nat) : Int) := by omega
        clear hBs hBn hY hj hk hck hJs hJd hnx hR
        gi_wp2
        gi_region
        all_goals
          gi_wp2
          refine hR'.out.mono ?_
          rintro e W3 (⟨rfl, hJ3, hk3⟩ | ⟨rfl, hJx3⟩)
          · have HW := Lib.hid (And.intro hJ3 hk3)
            have hs3 : W3.cell? ⟨Bn, 0, none⟩ = some (.int .i64 2) := (hk3.cell2 0).trans hs2
            clear hJ3 hk3
            gi_wp2
            go_roundw
            case rel => exact ⟨k + 1, j + 2, by have := HK.out.1; omega, by have := HK.out.1; omega, by go_num, by rw [List.range_succ]; exact HW.out.1, HK.out.2.2.drew.trans HW.out.2⟩
            case measure => simp [intOf]; omega
          · gi_wp2
            refine bodyPost_ret (results_none rfl _ _ _) rfl ?_
            exact ⟨⟨_, rfl⟩, .inr ⟨_, ⟨k + 1, by have := HK.out.1; omega, List.range_succ.symm⟩, hJx3⟩⟩
      · obtain rfl : n = j + 1 := by omega
        have hck : chunkV b off (j + 1) k = .slice (some ⟨b, off + j, none⟩) 1 1 := by unfold chunkV; rw [← hj, show j + 1 - j = 1 by omega]; rfl
        obtain ⟨fn, tmps, assign, body, hy, hR⟩ := hY _ k wr.drew hJd (by rw [List.length_range]; omega)
        rw [hck] at hy
        have HK := Lib.hid (And.intro hj (And.intro hk hnx))
        have hR' := Lib.hid hR
        clear hBs hBn hY hj hk hck hJs hJd hnx hR
        gi_wp2
        gi_region
        all_goals
          gi_wp2
          refine hR'.out.mono ?_
          rintro e W3 (⟨rfl, hJ3, hk3⟩ | ⟨rfl, hJx3⟩)
          · have HW := Lib.hid (And.intro hJ3 hk3)
            have hs3 : W3.cell? ⟨Bn, 0, none⟩ = some (.int .i64 2) := (hk3.cell2 0).trans hs2
            clear hJ3 hk3
            gi_wp2
            go_roundw
            case rel => exact ⟨k + 1, j + 2, by have := HK.out.1; omega, by have := HK.out.1; omega, by go_num, by rw [List.range_succ]; exact HW.out.1, HK.out.2.2.drew.trans HW.out.2⟩
            case measure => simp [intOf]; omega
          · gi_wp2
            refine bodyPost_ret (results_none rfl _ _ _) rfl ?_
            exact ⟨⟨_, rfl⟩, .inr ⟨_, ⟨k + 1, by have := HK.out.1; omega, List.range_succ.symm⟩, hJx3⟩⟩
    · have hk2 : k = (n + 1) / 2 := by omega
      have HK := Lib.hid (And.intro hk2 hJs)
      clear hk2 hJs hJd hBs hBn hY hj
      gi_wp2
      go_end0
      exact ⟨⟨_, rfl⟩, .inl ⟨_, rfl, by rw [← HK.out.1]; exact HK.out.2⟩⟩

set_option maxRecDepth 100000 in
set_option maxHeartbeats 1000000 in
/-- .. of no byte: no round. -/
theorem chunk1_nil_in (F : Fence) (N : Nat) (h7 : F.fn 56) (hro : F.round = none) (l Bs Bn : Nat) (A : Option Addr) (c : Nat) (J : List Nat → World → Prop) (W : World) (hBs : W.cell? ⟨Bs, 0, none⟩ = some (.slice A 0 c)) (h0 : J [] W) :
    CallsIn F N Tryd.prog 56 #[.func (.yield l) #[] #[], .pointer (some ⟨Bs, 0, none⟩), .pointer (some ⟨Bn, 0, none⟩)] W fun e W' => (∃ v, e = .returned v) ∧ J [] W' := by
  refine callsIn_of_wp Tryd.func56 rfl h7 ?_ hro
  simp only [Tryd.ntmps56, List.size_toArray, List.length_cons, List.length_nil, Nat.reduceAdd, Nat.reduceSub, Array.replicate_succ, Array.replicate_zero, List.push_toArray, List.append_toArray, List.nil_append, List.cons_append]
  gi_wp2
  gi_loopw [4] (fun i wr => i = .int .i64 0 ∧ wr.cell? ⟨Bs, 0, none⟩ = some (.slice A 0 c) ∧ J [] wr) (fun _ _ => 0)
  case atStart => exact ⟨rfl, hBs, h0⟩
  case round =>
    obtain ⟨rfl, hc, hJs⟩ := hrel
    clear hBs
    gi_wp2
    go_end0
    exact ⟨⟨_, rfl⟩, hJs⟩
set_option maxHeartbeats 1000000 in
/-- slices.Chunk(b, 2): slice and number are boxed; the function value captures the boxes. -/
theorem chunk_in (F : Fence) (N : Nat) (h5 : F.fn 51) (hro : F.round = none) (A : Option Addr) (n c : Nat) (w : World) :
    CallsIn F N Tryd.prog 51 #[.slice A n c, .int .i64 2] w fun e w' => e = .returned (.func (.func 56) #[] #[.pointer (some ⟨w.heap.size, 0, none⟩), .pointer (some ⟨w.heap.size + 1, 0, none⟩)]) ∧ w' = (w.alloc (.cells #[.slice A n c] 22)).alloc (.cells #[.int .i64 2] 3) := by
  refine callsIn_of_wp Tryd.func51 rfl h5 ?_ hro
  simp only [Tryd.ntmps51, List.size_toArray, List.length_cons, List.length_nil, Nat.reduceAdd, Nat.reduceSub, Array.replicate_succ, Array.replicate_zero, List.push_toArray, List.append_toArray, List.nil_append, List.cons_append]
  gi_wp2
  go_ret
  exact ⟨rfl, rfl⟩

/-- The iterator hands out each stretch, in order. -/
theorem chunk_stops (F : Fence) (N : Nat) (h7 : F.fn 56) (hro : F.round = none) (hn : 1 ≤ N) (Bs Bn b off n c : Nat) (hnc : n ≤ c) (hmx : n ≤ 140737488355328) (w : World) (hBs : Bs < w.heap.size) (hBn : Bn < w.heap.size)
    (hc : w.cell? ⟨Bs, 0, none⟩ = some (.slice (some ⟨b, off, none⟩) n c)) (hk : w.cell? ⟨Bn, 0, none⟩ = some (.int .i64 2)) :
    SeqStopsK F N Tryd.prog 56 #[.pointer (some ⟨Bs, 0, none⟩), .pointer (some ⟨Bn, 0, none⟩)] (fun k : Nat => #[chunkV b off n k]) (Two Bs Bn) (fun ys => ys = List.range ((n + 1) / 2)) (fun pre => ∃ k, k ≤ (n + 1) / 2 ∧ pre = List.range k) ((n + 1) / 2) w := fun l J Jx W hW hJ _ hY h0 => by
  have hc' := (hW.cell (p := ⟨Bs, 0, none⟩) hBs).trans hc
  have hk' := (hW.cell (p := ⟨Bn, 0, none⟩) hBn).trans hk
  exact chunk1_in F N h7 hro hn l Bs Bn b off n c hnc hmx J Jx W hJ hY hc' hk' h0
end Go.Proofs.YtioonjgamdompaaDoor
