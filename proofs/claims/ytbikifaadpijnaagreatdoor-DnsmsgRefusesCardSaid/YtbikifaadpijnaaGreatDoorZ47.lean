/-
  stockadeplay.records: some records, that may be written. Conditions: those of the slices.
-/
import Derived.Test.YtbikifaadpijnaaGreatDoorZ42
import Derived.Test.YtbikifaadpijnaaGreatDoorZ45
import Derived.IntWalk
namespace Go.Proofs.YtbikifaadpijnaaGreatDoor
open Go.RowKit
set_option maxRecDepth 100000

/-- Records that may be written, of times that may be. -/
def Play1 (y : Rc) : Prop := ∃ t, (0 ≤ t ∧ t < 4294967296) ∧ Plays t y
/-- Records as arguments: their times are numbers of four bytes, their texts' lengths fit. -/
def Rec1 (r : Rc) : Prop := (0 ≤ r.ttl ∧ r.ttl < 4294967296) ∧ r.name.length ≤ 9223372036854775807 ∧ r.target.length ≤ 9223372036854775807
set_option maxHeartbeats 4000000 in
theorem playRs_any {lo : Nat} {A : Option Addr} {n c : Nat} {xs : List Rc} {w : World} (hS : RcS lo w A n c xs) (hs : ∀ r ∈ xs, Rec1 r) : Calls Tryz.prog 46 #[.slice A n c] w fun e w' =>
    ∃ A' m c' ys, e = .returned (.slice A' m c') ∧ RcW w.heap.size w.heap.size w'.heap.size w' A' m c' ys ∧ m ≤ 8 ∧ (∀ y ∈ ys, Play1 y) ∧ Below w.heap.size w w' := by
  have hlen := hS.len
  have hcap := hS.cap
  have hmax := hS.max
  unfold maxLen at hmax
  have HS := Lib.hid hS
  have HN := Lib.hid hs
  have HK := Lib.hid hS.ok
  clear hS hs
  --<< a
  go_enter Tryz.func46, Tryz.ntmps46
  go_wp2_with fail
  go_loopw [3, 4] (fun v i wr => ∃ (k : Nat) (ys : List Rc) (ds : List Sl), k ≤ n ∧ k ≤ 8 ∧ i = .int .i64 k ∧ ys.length = k ∧ (∀ y ∈ ys, Play1 y) ∧ RcO w.heap.size wr w.heap.size v ys ds ∧ Below w.heap.size w wr) (fun _ i _ => 8 - (intOf i).toNat)
  case atStart => exact ⟨0, [], [], Nat.zero_le _, Nat.zero_le _, rfl, rfl, (fun y h => by cases h), RcO.nil _ _ _, Below.refl _ _⟩
  case round =>
    obtain ⟨k, ys, ds, hk, hk8, rfl, hyl, hyp, ho, hbe⟩ := hrel
    by_cases hlt : k < n ∧ k < 8
    · obtain ⟨h1, h2⟩ := hlt
      obtain ⟨x, hx⟩ : ∃ x, xs[k]? = some x := ⟨xs[k]'(by omega), List.getElem?_eq_getElem _⟩
      have hxm := List.mem_of_getElem? hx
      have hsx := HN.out x hxm
      obtain ⟨b, off, B, m, d, hA, hr, hd, _, _⟩ := (HS.out.later hbe (Nat.le_refl _)).here k x hx
      subst hA
      have HXK := Lib.hid (HK.out x hxm)
      have HR := Lib.hid hr
      have KP := Lib.hid (playR_any HXK.out hd hsx.2.1 hsx.2.2)
      have HO := Lib.hid (And.intro ho (And.intro hbe hyp))
      have HSX := Lib.hid hsx
      clear ho hbe hyp hx hr hd hsx hxm
      go_wp2_with (refine wpList_load_mid rfl 57 (.tmp 18) rfl b (off + k * 23) rfl (rcv x B m d).toList _ HR.out Tryz.underlying57 rfl (by simpa using rc_size HXK.out B m d) ?_; rw [Array.toArray_toList])
      refine KP.out.mono ?_
      rintro e w2 ⟨y, A2, n2, c2, rfl, hp, B2, O2, b2⟩
      have H2 := Lib.hid (And.intro (HO.out.1.later b2) (And.intro (And.intro B2 (HO.out.1.fresh (n := n2) O2 HO.out.2.1.size)) (And.intro hp (HO.out.2.1.trans (b2.mono HO.out.2.1.size)))))
      clear B2 O2 b2 hp
      go_wp2_with (first
        | (at_builtin; refine wpList_push_rc rfl (.tmp 15) (.tmp 21) rfl w.heap.size _ ys ds rfl H6.out.2.1 (d := ⟨A2, n2, c2⟩) rfl H6.out.1 H6.out.2.2.1.1 H6.out.2.2.1.2 (by omega) H6.out.2.2.2.size ?_; intro v7 w7 o7 g7; have H7 := Lib.hid (And.intro o7 (H6.out.2.2.2.grown g7 H6.out.2.2.2.size (fun x hx => (World.ownsRow.lt H6.out.2.1.own x hx).1))); clear o7 g7)
        | (refine wpList_lit1 rfl 24 57 (.tmp 20) rfl (rcv y A2 n2 c2) rfl infoR (rcv_size H2.out.2.2.1.ok _ _ _) (by decide) (by decide) Tryz.underlying24 ?_; have b6 : Below w2.heap.size w2 (w2.alloc (.cells (rcv y A2 n2 c2) 57)) := (Below.refl _ _).alloc (Nat.le_refl _) _; obtain ⟨w6, hw6⟩ : ∃ w6, w2.alloc (.cells (rcv y A2 n2 c2) 57) = w6 := ⟨_, rfl⟩; (have a6 := RcBox.new w2 H2.out.2.2.1.ok A2 n2 c2); rw [hw6] at a6 b6 ⊢; have H6 := Lib.hid (And.intro a6 (And.intro (H2.out.1.later b6) (And.intro (And.intro (H2.out.2.1.1.later b6 (Nat.le_refl _)) H2.out.2.1.2) (H2.out.2.2.2.trans (b6.mono H2.out.2.2.2.size))))); clear a6 b6 hw6))
      go_roundw
      case rel => exact ⟨k + 1, ys ++ [y], ds ++ [⟨A2, n2, c2⟩], by omega, by omega, by go_num, by simp [hyl], (fun z hz => by
        rcases List.mem_append.1 hz with h | h
        · exact HO.out.2.2 z h
        · rw [List.mem_singleton.1 h]; exact ⟨_, HSX.out.1, H2.out.2.2.1⟩), H7.out.1, H7.out.2⟩
      case measure => simp [intOf]; omega
    · obtain ⟨A3, c3, rfl, S3⟩ := RcS.of_own ho (Nat.le_refl _)
      have H3 := Lib.hid (And.intro (RcW.of_own ho (Nat.le_refl _)) (And.intro hbe hyp))
      clear S3 hbe hyp ho
      rcases Nat.lt_or_ge k n with h | h
      · have h8 : k = 8 := by omega
        subst h8
        clear hlt
        go_wp2_with fail
        go_ret
        exact ⟨A3, _, c3, ys, rfl, (by have hz := H3.out.1; rw [hyl] at hz; exact hz), by omega, H3.out.2.2, H3.out.2.1⟩
      · have hkn : k = n := by omega
        subst hkn
        clear hlt
        go_wp2_with fail
        go_ret
        exact ⟨A3, _, c3, ys, rfl, H3.out.1, by omega, H3.out.2.2, H3.out.2.1⟩
  -->>
end Go.Proofs.YtbikifaadpijnaaGreatDoor
