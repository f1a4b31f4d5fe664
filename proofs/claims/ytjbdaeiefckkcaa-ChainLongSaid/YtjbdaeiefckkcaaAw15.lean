/-
  stockadelaw15.awake answers true. No conditions.
-/
import Derived.Test.YtjbdaeiefckkcaaHe15
namespace Go.Proofs.Ytjbdaeiefckkcaa
open Go.RowKit
set_option maxRecDepth 100000

/-- Records in a literal, just laid. -/
theorem Rks.laid (w : World) {xs : List Rk} {vs : List Value} (hv : rkL xs = vs) (hk : ∀ r ∈ xs, r.ok) {n : Nat} (hn : xs.length = n) (hm : n ≤ 1000) : Rks (w.alloc (.cells (vs.flatMap fun v => v.cells.toList).toArray 32)) (some ⟨w.heap.size, 0, none⟩) n n xs ∧ Below w.heap.size w (w.alloc (.cells (vs.flatMap fun v => v.cells.toList).toArray 32)) :=
  ⟨Rks.of_block (heap_alloc_last w _) (by simp [rkC, hv]) hk (by unfold maxLen; omega) hn, (Below.refl _ _).alloc (Nat.le_refl _) _⟩
theorem Fos.laid (w : World) {xs : List Fo} {vs : List Value} (hv : foL xs = vs) (hk : ∀ r ∈ xs, r.ok) {n : Nat} (hn : xs.length = n) (hm : n ≤ 1000) : Fos (w.alloc (.cells (vs.flatMap fun v => v.cells.toList).toArray 44)) (some ⟨w.heap.size, 0, none⟩) n n xs ∧ Below w.heap.size w (w.alloc (.cells (vs.flatMap fun v => v.cells.toList).toArray 44)) :=
  ⟨Fos.of_block (heap_alloc_last w _) (by simp [foC, hv]) hk (by unfold maxLen; omega) hn, (Below.refl _ _).alloc (Nat.le_refl _) _⟩
theorem rkL_sizes {xs : List Rk} {vs : List Value} (hv : rkL xs = vs) (h : ∀ r ∈ xs, r.ok) : ∀ v ∈ vs, v.cells.size = 23 := hv ▸ rkL_size h
theorem foL_sizes {xs : List Fo} {vs : List Value} (hv : foL xs = vs) (h : ∀ r ∈ xs, r.ok) : ∀ v ∈ vs, v.cells.size = 18 := hv ▸ foL_size h
theorem cname_let (f t : ByteArray) (ttl : Int) {R : Array Value} (hR : rkv (cnr f t ttl) = R) (w : World) : Calls Try.prog 6 #[.string f, .string t, .int .u32 ttl] w fun e w' => e = .returned (.agg R) ∧ Below w.heap.size w w' := hR ▸ cname_any f t ttl w
theorem a_let (f : ByteArray) (d : UInt8) (ttl : Int) {R : Array Value} (hR : rkv (arr f d ttl) = R) (w : World) : Calls Try.prog 7 #[.string f, .int .u8 d.toNat, .int .u32 ttl] w fun e w' => e = .returned (.agg R) ∧ Below w.heap.size w w' := hR ▸ a_any f d ttl w
theorem awake_follow : followv [cnr ⟨#[97]⟩ ⟨#[98]⟩ 5, arr ⟨#[98]⟩ 1 9] ⟨#[97]⟩ = ([⟨false, v4B 8 8 8 1, 5⟩], [⟨#[97]⟩, ⟨#[98]⟩]) := by decide +kernel
set_option maxHeartbeats 2000000 in
theorem awake15 (w : World) : Calls Try.prog 9 #[] w fun e w' => e = .returned (.bool true) ∧ Below w.heap.size w w' := by
  have hok : ∀ r ∈ [cnr ⟨#[97]⟩ ⟨#[98]⟩ 5, arr ⟨#[98]⟩ 1 9], r.ok := fun r hr => by
    rcases List.mem_cons.1 hr with rfl | hr
    · exact cnr_ok _ _ _
    · obtain rfl := List.mem_singleton.1 hr
      exact arr_ok _ _ _
  obtain ⟨R1, h1⟩ : ∃ R, rkv (cnr ⟨#[97]⟩ ⟨#[98]⟩ 5) = R := ⟨_, rfl⟩
  obtain ⟨R2, h2⟩ : ∃ R, rkv (arr ⟨#[98]⟩ 1 9) = R := ⟨_, rfl⟩
  have hv : rkL [cnr ⟨#[97]⟩ ⟨#[98]⟩ 5, arr ⟨#[98]⟩ 1 9] = [.agg R1, .agg R2] := by rw [← h1, ← h2]; rfl
  have HOK := Lib.hid (And.intro hok hv)
  have HRS := Lib.hid (And.intro h1 h2)
  clear hok h1 h2 hv
  go_enter Try.func9, Try.ntmps9
  go_wp2_with fail
  refine (cname_let ⟨#[97]⟩ ⟨#[98]⟩ 5 HRS.out.1 w).mono ?_
  rintro e w1 ⟨rfl, b1⟩
  have H1 := Lib.hid b1
  clear b1
  go_wp2_with fail
  refine (a_let ⟨#[98]⟩ 1 9 HRS.out.2 w1).mono ?_
  rintro e w2 ⟨rfl, b2⟩
  have H2 := Lib.hid (H1.out.trans (b2.mono H1.out.size))
  clear b2
  go_wp2_with (refine wpList_lits rfl 26 32 2 _ rfl ([.agg R1, .agg R2] : List Value) rfl infoRk (rkL_sizes HOK.out.2 HOK.out.1) rfl (by decide) (by decide) (by decide) Try.underlying26 ?_; have h3 := Rks.laid w2 HOK.out.2 HOK.out.1 rfl (by decide); have H3 := Lib.hid (And.intro h3.1 (H2.out.trans (h3.2.mono H2.out.size))); clear h3; generalize w2.alloc (.cells (([.agg R1, .agg R2] : List Value).flatMap fun v => v.cells.toList).toArray 32) = w3 at H3 ⊢)
  have KF := follow_any H3.out.1 (by decide) (.int .i64 0) (.bool false) (.int .i64 0) (.int .i64 0) (.int .i64 0) (.slice none 0 0) (.slice none 0 0) (.slice none 0 0) ⟨#[97]⟩
  rw [awake_follow] at KF
  refine KF.mono ?_
  clear KF
  rintro e w4 ⟨B, m, d, C, k, f, rfl, hF, hG, b4⟩
  obtain rfl : m = 1 := hF.len.symm
  obtain rfl : k = 2 := hG.len.symm
  obtain ⟨b, off, rfl, hr⟩ := hF.here 0 _ rfl
  have e1 := (fo_at (by exact hF.ok _ (List.mem_singleton.2 rfl)) hr).2
  have H4 := Lib.hid (And.intro hG (H3.out.2.trans (b4.mono H3.out.2.size)))
  clear hF hG b4 hr
  go_wp2_with fail
  have hL := Gs.lit w4 (sv [⟨#[97]⟩, ⟨#[98]⟩]) 2 rfl (by unfold maxLen; omega) #[.string ⟨#[97]⟩, .string ⟨#[98]⟩] rfl 9
  have b5 : Below w4.heap.size w4 (w4.alloc (.cells #[.string ⟨#[97]⟩, .string ⟨#[98]⟩] 9)) := (Below.refl _ _).alloc (Nat.le_refl _) _
  refine (plainT_same (H4.out.1.later b5 (Nat.le_refl _)) hL).mono ?_
  rintro e w6 ⟨rfl, b6⟩
  have H6 := Lib.hid (H4.out.2.trans ((b5.trans (b6.mono b5.size)).mono H4.out.2.size))
  clear b6 b5 hL
  go_wp2_with fail
  go_ret
  exact ⟨rfl, H6.out⟩
end Go.Proofs.Ytjbdaeiefckkcaa
