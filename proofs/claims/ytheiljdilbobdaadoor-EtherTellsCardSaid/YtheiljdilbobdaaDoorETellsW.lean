/-
  stockadelaw05.EtherTells answers true, whatever is handed in. Conditions: those of the slices; errors.errorType holds the handle of the type error.
-/
import Derived.Test.YtheiljdilbobdaaDoorRefBuild
import Derived.Test.YtheiljdilbobdaaDoorAwake05
namespace Go.Proofs.YtheiljdilbobdaaDoor
open Go.RowKit

theorem Zs.of {w : World} {A : Option Addr} {zs : List Int} (hm : zs.length ≤ maxLen) (hc : ∀ i, i < zs.length → ∃ b off, A = some ⟨b, off, none⟩ ∧ w.cell? ⟨b, off + i, none⟩ = some (.int .i64 (zs.getD i 0))) : Zs w A zs.length zs :=
  ⟨rfl, hm, fun i z hi => by
    obtain ⟨h, rfl⟩ := List.getElem?_eq_some_iff.1 hi
    obtain ⟨b, off, e, hc⟩ := hc i h
    exact ⟨b, off, e, by rw [hc]; simp [List.getD, h]⟩⟩

set_option maxRecDepth 100000 in
set_option maxHeartbeats 4000000 in
theorem etherTells {A B : Option Addr} {n c m d : Nat} {l : List UInt8} {zs : List Int} {w : World} (hb : Bs w A n c l) (kind : Int) (hz : Zs w B m zs) (hg : Handle w) : Calls Tryd.prog 3 #[.slice A n c, .int .i64 kind, .slice B m d] w fun e w' => e = .returned (.bool true) ∧ Below w.heap.size w w' := by
  have hm := Nat.le_trans hb.cap hb.max
  have hm2 := hz.2.1
  unfold maxLen at hm hm2
  have HG := Lib.hid hg
  have HB := Lib.hid (And.intro hb hz)
  clear hg hb hz
  by_cases hbig : 3000 < n
  · have hq : (3000 : Int) < (n : Int) := by omega
    go_enter Tryd.func3, Tryd.ntmps3
    go_wp2_with fail
    refine (awake05 _).mono ?_
    rintro e w1 ⟨rfl, h1⟩
    have H1 := Lib.hid h1
    clear h1
    go_wp2_with fail
    go_ret
    exact ⟨rfl, H1.out⟩
  by_cases hbig2 : 10 < m
  · have hq : (10 : Int) < (m : Int) := by omega
    go_enter Tryd.func3, Tryd.ntmps3
    go_wp2_with fail
    refine (awake05 _).mono ?_
    rintro e w1 ⟨rfl, h1⟩
    have H1 := Lib.hid h1
    clear h1
    go_wp2_with fail
    go_ret
    exact ⟨rfl, H1.out⟩
  obtain ⟨⟨k1, at1, c1, a1, p1⟩, e1⟩ : ∃ f, etherv l n = f := ⟨_, rfl⟩
  obtain ⟨⟨c2, a2, p2⟩, e2⟩ : ∃ f, builte kind zs n = f := ⟨_, rfl⟩
  have E := Lib.hid (And.intro e1 e2)
  clear e1 e2
  go_enter Tryd.func3, Tryd.ntmps3
  go_wp2_with fail
  refine (own_any HB.out.1 71 (by omega)).mono ?_
  rintro e w1 ⟨rfl, f1, b1⟩
  have S1 := Lib.hid (And.intro f1 b1)
  clear b1 f1
  go_wp2_with fail
  refine (parse_ether (S1.out.1.bs HB.out.1.len (by unfold maxLen; omega))).mono ?_
  rintro e w2 ⟨v2, rfl, t2, b2⟩
  rw [E.out.1] at t2 ⊢
  have S2 := Lib.hid (And.intro t2 (And.intro (S1.out.1.later b2 (Nat.le_refl _)) (S1.out.2.trans (b2.mono S1.out.2.size))))
  clear b2 t2
  go_wp2_with fail
  refine (ref_ether (HB.out.1.later S2.out.2.2 (Nat.le_refl _))).mono ?_
  rintro e w3 ⟨rfl, b3⟩
  rw [E.out.1, Fl.v]
  have b3' := b3.alloc b3.size (.cells #[.int .i64 c1, .int .i64 a1, .bool p1] 32)
  have S4 := Lib.hid (And.intro (S2.out.1.later b3' (Nat.le_refl _)) (And.intro (S2.out.2.1.later b3' (Nat.le_refl _)) (And.intro (Box.new w3 c1 a1 p1) (S2.out.2.2.trans (b3'.mono S2.out.2.2.size)))))
  clear b3 b3'
  go_wp2_with fail
  refine (build_ether kind (HB.out.2.later S4.out.2.2.2 (Nat.le_refl _)) (S4.out.2.1.bs HB.out.1.len (by unfold maxLen; omega))).mono ?_
  rintro e w5 ⟨A5, n5, d5, v5, rfl, q5, t5, b5⟩
  rw [E.out.2] at t5
  have S5 := Lib.hid (And.intro (S4.out.1.later b5 (Nat.le_refl _)) (And.intro (S4.out.2.1.later b5 (Nat.le_refl _)) (And.intro (S4.out.2.2.1.later b5 (Nat.le_refl _)) (And.intro q5 (And.intro t5 (S4.out.2.2.2.trans (b5.mono S4.out.2.2.2.size)))))))
  clear b5 q5 t5
  go_wp2_with fail
  refine (ref_build kind (HB.out.2.later S5.out.2.2.2.2.2 (Nat.le_refl _)) (HB.out.1.later S5.out.2.2.2.2.2 (Nat.le_refl _)) (by omega)).mono ?_
  rintro e w6 ⟨A6, n6, d6, rfl, q6, b6⟩
  rw [E.out.2, Fl.v]
  have b6' := b6.alloc b6.size (.cells #[.int .i64 c2, .int .i64 a2, .bool p2] 32)
  have S7 := Lib.hid (And.intro (S5.out.1.later b6' (Nat.le_refl _)) (And.intro (S5.out.2.1.later b6' (Nat.le_refl _)) (And.intro (S5.out.2.2.1.later b6' (Nat.le_refl _)) (And.intro (S5.out.2.2.2.1.later b6' (Nat.le_refl _)) (And.intro (S5.out.2.2.2.2.1.later b6' (Nat.le_refl _)) (And.intro (q6.later ((Below.refl _ w6).alloc (Nat.le_refl _) (.cells #[.int .i64 c2, .int .i64 a2, .bool p2] 32)) (Nat.le_refl _)) (And.intro (Box.new w6 c2 a2 p2) (S5.out.2.2.2.2.2.trans (b6'.mono S5.out.2.2.2.2.2.size)))))))))
  clear b6 b6' q6
  go_wp2_with fail
  refine (awake05 _).mono ?_
  rintro e w8 ⟨rfl, b8⟩
  have S8 := Lib.hid (And.intro (S7.out.1.later b8 (Nat.le_refl _)) (And.intro (S7.out.2.1.later b8 (Nat.le_refl _)) (And.intro (S7.out.2.2.1.later b8 (Nat.le_refl _)) (And.intro (S7.out.2.2.2.1.later b8 (Nat.le_refl _)) (And.intro (S7.out.2.2.2.2.1.later b8 (Nat.le_refl _)) (And.intro (S7.out.2.2.2.2.2.1.later b8 (Nat.le_refl _)) (And.intro (S7.out.2.2.2.2.2.2.1.later b8 (Nat.le_refl _)) (S7.out.2.2.2.2.2.2.2.trans (b8.mono S7.out.2.2.2.2.2.2.2.size)))))))))
  clear b8
  obtain ⟨d0, d1, d2⟩ := S8.out.2.2.1.cells
  go_wp2_with fail
  refine (is_told3 S8.out.1 (HG.out.later S8.out.2.2.2.2.2.2.2 (Nat.le_refl _))).mono ?_
  rintro e w9 ⟨rfl, b9⟩
  clear d0 d1 d2
  have S9 := Lib.hid (And.intro (S8.out.2.1.later b9 (Nat.le_refl _)) (And.intro (S8.out.2.2.2.1.later b9 (Nat.le_refl _)) (And.intro (S8.out.2.2.2.2.1.later b9 (Nat.le_refl _)) (And.intro (S8.out.2.2.2.2.2.1.later b9 (Nat.le_refl _)) (And.intro (S8.out.2.2.2.2.2.2.1.later b9 (Nat.le_refl _)) (S8.out.2.2.2.2.2.2.2.trans (b9.mono S8.out.2.2.2.2.2.2.2.size)))))))
  clear b9
  go_wp2_with fail
  refine (bytes_same S9.out.2.1 S9.out.2.2.2.1).mono ?_
  rintro e w' ⟨rfl, rfl⟩
  obtain ⟨d0, d1, d2⟩ := S9.out.2.2.2.2.1.cells
  go_wp2_with fail
  refine (is_told3 S9.out.2.2.1 (HG.out.later S9.out.2.2.2.2.2 (Nat.le_refl _))).mono ?_
  rintro e w10 ⟨rfl, b10⟩
  clear d0 d1 d2
  have S10 := Lib.hid (And.intro (S9.out.1.later b10 (Nat.le_refl _)) (S9.out.2.2.2.2.2.trans (b10.mono S9.out.2.2.2.2.2.size)))
  clear b10
  go_wp2_with fail
  refine (kept_any S10.out.1 (HB.out.1.later S10.out.2 (Nat.le_refl _)) (by omega)).mono ?_
  rintro e w11 ⟨rfl, b11⟩
  have S11 := Lib.hid (S10.out.2.trans (b11.mono S10.out.2.size))
  clear b11
  go_wp2_with fail
  go_ret
  exact ⟨rfl, S11.out⟩
end Go.Proofs.YtheiljdilbobdaaDoor
