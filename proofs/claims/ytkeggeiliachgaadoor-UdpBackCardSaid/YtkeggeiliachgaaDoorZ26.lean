/-
  sum.Over. Conditions: those of the slice; 2^47 bytes at most.
  stockaderef01.bytesOf, Over. Conditions: those of the slices; 2^47 bytes at most.
-/
import Derived.Test.YtkeggeiliachgaaDoorZ19
import Derived.Test.YtkeggeiliachgaaDoorZ25
import Derived.Test.YtkeggeiliachgaaDoorZ14
import Derived.Test.YtkeggeiliachgaaDoorZ03
import Derived.Test.YtkeggeiliachgaaDoorZ07
namespace Go.Proofs.YtkeggeiliachgaaDoor
open Go.RowKit

set_option maxRecDepth 100000 in
set_option maxHeartbeats 1000000 in
theorem over_any (v1 v2 : Bool) (a b : List UInt8) (ha : a.length = 16) (hb : b.length = 16) (proto : Int) {A : Option Addr} {n c : Nat} {l : List UInt8} {w : World} (hs : Bs w A n c l) (h47 : n ≤ 140737488355328) :
    Calls Tryd.prog 27 #[.agg (adv v1 a), .agg (adv v2 b), .int .i64 proto, .slice A n c] w fun e w' =>
      e = .returned (.int .i64 (65535 - fold (tot (aheadL v1 a b proto n) + tot l) : Nat)) ∧ Below w.heap.size w w' := by
  have A1 := (AdBox.new w v1 ha).later ((Below.refl _ _).alloc (Nat.le_refl _) (.cells (adv v2 b) 25)) (Nat.le_refl _)
  have A2 := AdBox.new (w.alloc (.cells (adv v1 a) 25)) v2 hb
  rw [World.size_alloc] at A2
  have HA := Lib.hid (And.intro A1 A2)
  have B2 := Lib.hid (((Below.refl _ w).alloc (Nat.le_refl _) (.cells (adv v1 a) 25)).alloc (by simp) (.cells (adv v2 b) 25))
  have HB := Lib.hid hs
  have ht := tot_le l
  have hl := hs.len
  have ht2 := tot_le (aheadL v1 a b proto n)
  have hl2' : (aheadL v1 a b proto n).length ≤ 40 := by cases v1 <;> simp [aheadL, putn_length, ha, hb]
  have HT := Lib.hid (show tot (aheadL v1 a b proto n) < 9223372036854775808 - 10 ∧ tot l ≤ 9223372036854775808 by omega)
  clear A1 A2 hs ht hl ht2 hl2'
  go_enter Tryd.func27, Tryd.ntmps27
  go_wp2_with (first | (refine wpList_load_ad rfl (.tmp 4) rfl rfl HA.out.1 ?_) | (refine wpList_load_ad rfl (.tmp 5) rfl rfl HA.out.2 ?_))
  refine (ahead_any v1 v2 a b ha hb proto n _).mono ?_
  rintro e w1 ⟨v1', rfl, o1, b1⟩
  obtain ⟨A', c', rfl, hB⟩ := Bs.of_own o1
  have H1 := Lib.hid (And.intro hB (B2.out.trans (b1.mono B2.out.size)))
  clear o1 b1 hB
  go_wp2_with fail
  refine (added_any H1.out.1 (by cases v1 <;> simp [aheadL, putn_length, ha, hb])).mono ?_
  rintro e w2 ⟨rfl, b2⟩
  have H2 := Lib.hid (H1.out.2.trans (b2.mono H1.out.2.size))
  clear b2
  go_wp2_with fail
  refine (added_any (HB.out.later H2.out (Nat.le_refl _)) h47).mono ?_
  rintro e w3 ⟨rfl, b3⟩
  have H3 := Lib.hid (H2.out.trans (b3.mono H2.out.size))
  have HE := Lib.hid (show IntKind.u64.wrap ((tot (aheadL v1 a b proto n) : Int) + (tot l : Int)) = ((tot (aheadL v1 a b proto n) + tot l : Nat) : Int) by rw [show ((tot (aheadL v1 a b proto n) : Int) + (tot l : Int)) = ((tot (aheadL v1 a b proto n) + tot l : Nat) : Int) by omega, u64_small _ (by have := HT.out; omega)])
  clear b3
  go_wp2_with fail
  rw [HE.out]
  refine (closed_any _ (by have := HT.out; omega) _).mono ?_
  rintro e w4 ⟨rfl, rfl⟩
  go_wp2_with fail
  go_ret
  exact ⟨rfl, H3.out⟩
end Go.Proofs.YtkeggeiliachgaaDoor

namespace Go.Proofs.YtkeggeiliachgaaDoor
open Go.RowKit

/-- As many bytes of an address as its version has. -/
def abytes (v6 : Bool) (a : List UInt8) : List UInt8 := if v6 then a else a.take 4
theorem abytes_len (v6 : Bool) {a : List UInt8} (h : a.length = 16) : (abytes v6 a).length = if v6 then 16 else 4 := by cases v6 <;> simp [abytes, h]
theorem aheadL_eq (v6 : Bool) (a b : List UInt8) (proto : Int) (n : Nat) : aheadL v6 a b proto n = abytes v6 a ++ abytes v6 b ++ (if v6 then putn n 4 ++ [0, 0, 0, UInt8.ofNat (proto % 256).toNat] else [0, UInt8.ofNat (proto % 256).toNat] ++ putn n 2) := by
  cases v6 <;> simp [aheadL, abytes]

set_option maxRecDepth 100000 in
set_option maxHeartbeats 1000000 in
theorem bytesOf_any (v1 v6 : Bool) (a : List UInt8) (ha : a.length = 16) (w : World) : Calls Tryd.prog 36 #[.agg (adv v1 a), .bool v6] w fun e w' =>
    ∃ v', e = .returned v' ∧ w'.ownsRow w.heap.size 5 1 v' (abytes v6 a).length (bv (abytes v6 a)) ∧ Below w.heap.size w w' := by
  have A1 := AdBox.new w v1 ha
  have B1 := Lib.hid ((Below.refl _ w).alloc (Nat.le_refl _) (.cells (adv v1 a) 25))
  have HB := Lib.hid (And.intro A1.bytes A1.bytes4)
  clear A1
  cases v6
  · go_enter Tryd.func36, Tryd.ntmps36
    go_wp2_with (at_builtin; refine wpList_append_bs rfl (.const (.slice none 0 0)) (.tmp 10) 22 rfl w.heap.size 5 info5 Tryd.underlying22 _ 0 [] rfl (World.ownsRow_nil _ _ _ _) _ 4 16 _ rfl HB.out.2 (by omega) B1.out.size ?_; intro v1 w1 o1 g1 _ _; have H1 := Lib.hid (And.intro o1 (B1.out.grown g1 B1.out.size (fun q hq => by cases hq))); clear o1 g1)
    go_ret
    exact ⟨v1, rfl, owns_n (n := 4) (by simp [abytes, ha]) (by simpa [abytes] using H1.out.1), H1.out.2⟩
  · go_enter Tryd.func36, Tryd.ntmps36
    go_wp2_with (at_builtin; refine wpList_append_bs rfl (.const (.slice none 0 0)) (.tmp 7) 22 rfl w.heap.size 5 info5 Tryd.underlying22 _ 0 [] rfl (World.ownsRow_nil _ _ _ _) _ 16 16 _ rfl HB.out.1 (by omega) B1.out.size ?_; intro v1 w1 o1 g1 _ _; have H1 := Lib.hid (And.intro o1 (B1.out.grown g1 B1.out.size (fun q hq => by cases hq))); clear o1 g1)
    go_ret
    exact ⟨v1, rfl, owns_n (n := 16) (by simp [abytes, ha]) (by simpa [abytes] using H1.out.1), H1.out.2⟩

set_option maxRecDepth 100000 in
set_option maxHeartbeats 1000000 in
theorem ref_over (v1 v2 : Bool) (a b : List UInt8) (ha : a.length = 16) (hb : b.length = 16) (proto : Int) {A : Option Addr} {n c : Nat} {l : List UInt8} {w : World} (hs : Bs w A n c l) (h47 : n ≤ 140737488350000) :
    Calls Tryd.prog 22 #[.agg (adv v1 a), .agg (adv v2 b), .int .i64 proto, .slice A n c] w fun e w' =>
      e = .returned (.int .i64 (cks (aheadL v1 a b proto n ++ l))) ∧ Below w.heap.size w w' := by
  have A1 := Lib.hid ((AdBox.new w v1 ha).later ((Below.refl _ _).alloc (Nat.le_refl _) (.cells (adv v2 b) 25)) (Nat.le_refl _))
  have A2 := AdBox.new (w.alloc (.cells (adv v1 a) 25)) v2 hb
  rw [World.size_alloc] at A2
  have A2 := Lib.hid A2
  have B2 := Lib.hid (((Below.refl _ w).alloc (Nat.le_refl _) (.cells (adv v1 a) 25)).alloc (by simp) (.cells (adv v2 b) 25))
  have HB := Lib.hid hs
  clear hs
  go_enter Tryd.func22, Tryd.ntmps22
  go_wp2_with fail
  generalize hW : (w.alloc (Obj.cells (adv v1 a) 25)).alloc (Obj.cells (adv v2 b) 25) = W at A1 A2 B2 ⊢
  have hc1 : ∀ w', Below W.heap.size W w' → w'.cell? ⟨w.heap.size, 0, none⟩ = some (.bool v1) := fun w' h => (A1.out.later h (Nat.le_refl _)).v6_cell
  clear hW
  have hS : Below W.heap.size W W.drew := (Below.refl _ _).drew
  refine rg_begin (fun w' => Below W.heap.size W w') 10 (by kernel_rfl) rfl ?_
  refine rg_load 0 rfl (by kernel_rfl) (by kernel_rfl) (by kernel_rfl) w.heap.size 0 (adv v1 a) (fun _ _ _ h => h) (by rfl) 25 (.tmp 4) rfl rfl hS (fun w' h => (A1.out.later h (Nat.le_refl _)).range) Tryd.underlying25 rfl (by rw [adv_size v1 ha]; kernel_rfl) ?_
  simp only [Act.put, List.setIfInBounds_toArray, List.set_cons_zero, List.set_cons_succ]
  refine rg_load 4 rfl (by kernel_rfl) (by kernel_rfl) (by kernel_rfl) (w.heap.size + 1) 0 (adv v2 b) (fun _ _ _ h => h) (by rfl) 25 (.tmp 5) rfl rfl hS (fun w' h => (A2.out.later h (Nat.le_refl _)).range) Tryd.underlying25 rfl (by rw [adv_size v2 hb]; kernel_rfl) ?_
  simp only [Act.put, List.setIfInBounds_toArray, List.set_cons_zero, List.set_cons_succ]
  refine rg_take 1 (v := ?rv1) rfl (by kernel_rfl) (by kernel_rfl) (by kernel_rfl) (fun _ _ _ h => h) (by rfl) hS (fun w2 hw2 => ?ry1) ?rr1
  case ry1 => ((try dsimp only at hw2); go_simp <;> with_reducible rfl)
  simp only [Act.put, List.setIfInBounds_toArray, List.set_cons_zero, List.set_cons_succ]
  refine rg_take 2 (v := ?rv2) rfl (by kernel_rfl) (by kernel_rfl) (by kernel_rfl) (fun _ _ _ h => h) (by rfl) hS (fun w2 hw2 => ?ry2) ?rr2
  case ry2 => ((try dsimp only at hw2); go_simp <;> with_reducible rfl)
  simp only [Act.put, List.setIfInBounds_toArray, List.set_cons_zero, List.set_cons_succ]
  refine rg_take 5 (v := ?rv3) rfl (by kernel_rfl) (by kernel_rfl) (by kernel_rfl) (fun _ _ _ h => h) (by rfl) hS (fun w2 hw2 => ?ry3) ?rr3
  case ry3 => ((try dsimp only at hw2); go_simp <;> with_reducible rfl)
  simp only [Act.put, List.setIfInBounds_toArray, List.set_cons_zero, List.set_cons_succ]
  refine rg_take 6 (v := ?rv4) rfl (by kernel_rfl) (by kernel_rfl) (by kernel_rfl) (fun _ _ _ h => h) (by rfl) hS (fun w2 hw2 => ?ry4) ?rr4
  case ry4 => ((try dsimp only at hw2); go_simp <;> with_reducible rfl)
  simp only [Act.put, List.setIfInBounds_toArray, List.set_cons_zero, List.set_cons_succ]
  refine rg_step 3 rfl (by kernel_rfl) (by rfl) (fun K hK => ?_)
  go_simp
  refine (bytesOf_any v1 v1 a ha _).mono ?_
  rintro e w1 ⟨x1, rfl, o1, b1⟩
  have H1 := Lib.hid (And.intro (owns_base (base' := W.heap.size) o1 (Nat.le_refl _)) (hS.trans b1))
  have hS := H1.out.2
  clear o1 b1
  refine hK.out _ _ hS ?_
  clear hK K
  try simp only [Act.put, List.setIfInBounds_toArray, List.set_cons_zero, List.set_cons_succ]
  refine rg_step 7 rfl (by kernel_rfl) (by rfl) (fun K hK => ?_)
  go_simp
  refine (bytesOf_any v2 v1 b hb _).mono ?_
  rintro e w2 ⟨x2, rfl, o2, b2⟩
  obtain ⟨A2', c2, rfl, hB2⟩ := Bs.of_own o2
  have H2 := Lib.hid (And.intro (own_kept H1.out.1 b2) (And.intro hB2 (H1.out.2.trans (b2.mono H1.out.2.size))))
  have hS := H2.out.2.2
  clear o2 b2 hB2
  refine hK.out _ _ hS ?_
  clear hK K
  try simp only [Act.put, List.setIfInBounds_toArray, List.set_cons_zero, List.set_cons_succ]
  refine rg_step 8 rfl (by kernel_rfl) (by rfl) (fun K hK => ?_)
  refine wp_append_bs (.tmp 13) (.tmp 17) 22 rfl W.heap.size 5 info5 Tryd.underlying22 _ _ _ rfl H2.out.1 _ _ _ _ rfl H2.out.2.1 (by rw [abytes_len v1 ha, abytes_len v1 hb]; split <;> omega) H2.out.2.2.size ?_
  intro v3 w3 o3 g3 _ _
  have hS := H2.out.2.2.grown g3 H2.out.2.2.size (fun q hq => (H2.out.1.lt q hq).1)
  obtain ⟨X, hX⟩ : ∃ X, abytes v1 a ++ abytes v1 b = X := ⟨_, rfl⟩
  have hXl : X.length ≤ 32 := by rw [← hX, List.length_append, abytes_len v1 ha, abytes_len v1 hb]; split <;> omega
  rw [hX] at o3
  have H3 := Lib.hid (And.intro (owns_n (n' := X.length) (by rw [← hX, List.length_append]) (owns_base o3 B2.out.size)) (And.intro (B2.out.trans (hS.mono B2.out.size)) hX))
  clear o3 g3 hX
  refine hK.out _ _ hS ?_
  clear hK K
  try simp only [Act.put, List.setIfInBounds_toArray, List.set_cons_zero, List.set_cons_succ]
  refine rg_take 9 (v := ?rv5) rfl (by kernel_rfl) (by kernel_rfl) (by kernel_rfl) (fun _ _ _ h => h) (by rfl) hS (fun w2 hw2 => ?ry5) ?rr5
  case ry5 => ((try dsimp only at hw2); go_simp <;> with_reducible rfl)
  simp only [Act.put, List.setIfInBounds_toArray, List.set_cons_zero, List.set_cons_succ]
  refine rg_done (by kernel_rfl) ?_
  have hc3 : w3.cell? ⟨w.heap.size, 0, none⟩ = some (.bool v1) := hc1 w3 hS
  clear hS hc1
  cases v1
  · have ha4 := (H3.out.2.1.alloc H3.out.2.1.size (.cells #[.int .u8 0, .int .u8 (proto % 256)] 5))
    have o4' := own_kept H3.out.1 ((Below.refl w3.heap.size w3).alloc (Nat.le_refl _) (.cells #[.int .u8 0, .int .u8 (proto % 256)] 5))
    have HA4 := Lib.hid (And.intro o4' ha4)
    clear ha4 o4'
    go_wp2_with (at_builtin; refine wpList_append_bs rfl (.tmp 29) (.tmp 32) 22 rfl w.heap.size 5 info5 Tryd.underlying22 _ _ _ rfl (HA4.out.1) _ 2 2 [0, UInt8.ofNat (proto % 256).toNat] rfl (Bs.lit w3 _ 2 rfl (by unfold maxLen; omega) _ (by simp [bv]; omega) _) (by omega) (HA4.out.2.size) ?_; intro v4 w4 o4 g4 _ _; have H4 := Lib.hid (And.intro o4 ((HA4.out.2).grown g4 (HA4.out.2.size) (fun q hq => ((HA4.out.1).lt q hq).1))); clear o4 g4)
    obtain ⟨A4, c4, rfl, hB4⟩ := Bs.of_own H4.out.1
    have HB4 := Lib.hid hB4
    clear hB4
    refine (ref_put HB4.out (n : Int) 2 (by omega) (by omega)).mono ?_
    rintro e w5 ⟨v5, rfl, o5, b5⟩
    have H5 := Lib.hid (And.intro (owns_base (base' := w.heap.size) o5 H4.out.2.size) (H4.out.2.trans (b5.mono H4.out.2.size)))
    clear o5 b5
    go_wp2_with (at_builtin; refine wpList_append_bs rfl (.tmp 37) (.tmp 38) 22 rfl w.heap.size 5 info5 Tryd.underlying22 _ _ _ rfl (H5.out.1) _ n c l rfl (HB.out.later H5.out.2 (Nat.le_refl _)) (by omega) (H5.out.2.size) ?_; intro v6 w6 o6 g6 _ _; have H6 := Lib.hid (And.intro o6 ((H5.out.2).grown g6 (H5.out.2.size) (fun q hq => ((H5.out.1).lt q hq).1))); clear o6 g6)
    obtain ⟨A6, c6, rfl, hB6⟩ := Bs.of_own H6.out.1
    have HB6 := Lib.hid hB6
    clear hB6
    refine (ref_sum HB6.out (by omega)).mono ?_
    rintro e w7 ⟨rfl, rfl⟩
    go_wp2_with fail
    go_ret
    exact ⟨by rw [aheadL_eq, H3.out.2.2]; simp, H6.out.2⟩
  · obtain ⟨A3, c3, rfl, hB3⟩ := Bs.of_own H3.out.1
    have HB3 := Lib.hid hB3
    clear hB3
    go_wp2_with fail
    refine (ref_put HB3.out (n : Int) 4 (by omega) (by omega)).mono ?_
    rintro e w5 ⟨v5, rfl, o5, b5⟩
    have hb5 := H3.out.2.1.trans (b5.mono H3.out.2.1.size)
    have ha5 := hb5.alloc hb5.size (.cells #[.int .u8 0, .int .u8 0, .int .u8 0, .int .u8 (proto % 256)] 5)
    have o5' := own_kept (owns_base (base' := w.heap.size) o5 H3.out.2.1.size) ((Below.refl w5.heap.size w5).alloc (Nat.le_refl _) (.cells #[.int .u8 0, .int .u8 0, .int .u8 0, .int .u8 (proto % 256)] 5))
    have H5 := Lib.hid (And.intro o5' ha5)
    clear o5 b5 hb5 ha5 o5'
    go_wp2_with (first
      | (at_builtin; refine wpList_append_bs rfl (.tmp 24) (.tmp 27) 22 rfl w.heap.size 5 info5 Tryd.underlying22 _ _ _ rfl (H5.out.1) _ 4 4 [0, 0, 0, UInt8.ofNat (proto % 256).toNat] rfl (Bs.lit w5 _ 4 rfl (by unfold maxLen; omega) _ (by simp [bv]; omega) _) (by omega) (H5.out.2.size) ?_; intro v4 w4 o4 g4 _ _; have H4 := Lib.hid (And.intro o4 ((H5.out.2).grown g4 (H5.out.2.size) (fun q hq => ((H5.out.1).lt q hq).1))); clear o4 g4)
      | (at_builtin; refine wpList_append_bs rfl (.tmp 37) (.tmp 38) 22 rfl w.heap.size 5 info5 Tryd.underlying22 _ _ _ rfl (H4.out.1) _ n c l rfl (HB.out.later H4.out.2 (Nat.le_refl _)) (by omega) (H4.out.2.size) ?_; intro v6 w6 o6 g6 _ _; have H6 := Lib.hid (And.intro o6 ((H4.out.2).grown g6 (H4.out.2.size) (fun q hq => ((H4.out.1).lt q hq).1))); clear o6 g6))
    obtain ⟨A6, c6, rfl, hB6⟩ := Bs.of_own H6.out.1
    have HB6 := Lib.hid hB6
    clear hB6
    refine (ref_sum HB6.out (by omega)).mono ?_
    rintro e w7 ⟨rfl, rfl⟩
    go_wp2_with fail
    go_ret
    exact ⟨by rw [aheadL_eq, H3.out.2.2]; simp, H6.out.2⟩
end Go.Proofs.YtkeggeiliachgaaDoor
