/-
  
-/
import Derived.Test.YtoagfmonfgagbaaGreatDoorZ23
import Derived.Test.YtoagfmonfgagbaaGreatDoorZ22
import Derived.Test.YtoagfmonfgagbaaGreatDoorZ03
namespace Go.Proofs.YtoagfmonfgagbaaGreatDoor
open Go.RowKit
set_option maxRecDepth 100000
set_option maxHeartbeats 4000000 in
theorem refSplit_any (s : ByteArray) (hs : s.size ≤ 10000) (c : UInt8) (w : World) : Calls Tryz.prog 113 #[.string s, .int .u8 c.toNat] w fun e w' => ∃ v xs, e = .returned v ∧ w'.ownsRow w.heap.size 9 1 v xs.length (sv xs) ∧ bts xs = spl c s.data.toList ∧ Below w.heap.size w w' := by
  have HL := Lib.hid (Lib.size_eq s).symm
  unfold spl
  go_enter Tryz.func113, Tryz.ntmps113
  go_wp2_with fail
  go_loopw [5, 6, 7] (fun l f i wr => ∃ (done_ : List ByteArray) (a j : Nat), a ≤ j ∧ j ≤ s.size ∧ i = .int .i64 j ∧ f = .int .i64 a ∧ wr.ownsRow w.heap.size 9 1 l done_.length (sv done_) ∧ Below w.heap.size w wr ∧ done_.length ≤ j ∧ Hid (splN c s.data.toList s.data.toList.length = bts done_ ++ splN c (s.data.toList.drop a) s.data.toList.length ∧ ∀ k, a ≤ k → k < j → s.data.toList[k]? ≠ some c)) (fun _ _ i _ => s.size - (intOf i).toNat)
  case atStart => exact ⟨[], 0, 0, Nat.le_refl _, Nat.zero_le _, rfl, rfl, World.ownsRow_nil _ _ _ _, Below.refl _ _, Nat.le_refl _, Lib.hid ⟨rfl, fun k h1 h2 => by omega⟩⟩
  case round =>
    obtain ⟨dn, a, j, haj, hj, rfl, rfl, ho, hb, hdl, hh⟩ := hrel
    have hsz := hb.size
    have HO := Lib.hid (And.intro ho hb)
    clear ho hb
    by_cases hlt : j < s.size
    · obtain ⟨x, hx, hsk⟩ := str_at (s := s) (i := j) hlt
      by_cases hxc : x = c
      · subst hxc
        have hst := spl_step haj hx hh.out.2
        have HST := Lib.hid (And.intro hst hx)
        clear hst hx
        go_wp2_with (at_builtin; refine wpList_append_gs rfl (.tmp 19) (.tmp 24) 36 rfl w.heap.size 9 infoStr rfl (by omega) Tryz.underlying36 _ _ _ rfl (HO.out.1.alloc _) _ 1 1 _ rfl (by exact Gs.lit _ [.string (s.extract a j)] 1 rfl (by unfold maxLen; omega) _ rfl _) (sv_one [s.extract a j]) (by omega) (by simp; omega) ?_; intro v2 w2 o2 g2)
        have hb2 : Below w.heap.size w w2 := (HO.out.2.alloc hsz _).grown g2 (by simp; omega) (fun q hq => (HO.out.1.lt q hq).1)
        have o3 : w2.ownsRow w.heap.size 9 1 v2 (dn ++ [s.extract a j]).length (sv (dn ++ [s.extract a j])) := by
          rw [List.length_append, sv_append]
          exact o2
        refine ⟨⟨dn ++ [s.extract a j], j + 1, j + 1, Nat.le_refl _, hlt, by go_num, by go_num, o3, hb2, by rw [List.length_append]; simp; omega, Lib.hid ⟨?_, fun k h1 h2 => by omega⟩⟩, by simp [intOf]; omega⟩
        rw [hh.out.1, HST.out.1, bts_snoc, cut_piece, List.append_assoc]
        rfl
      · have HX := Lib.hid (And.intro hx hxc)
        have hne : ((x.toNat : Int) == (c.toNat : Int)) = false := by
          rw [beq_eq_false_iff_ne]
          intro e
          exact hxc (UInt8.toNat_inj.1 (by omega))
        clear hx hxc
        go_wp2_with fail
        refine ⟨⟨dn, a, j + 1, by omega, hlt, by go_num, rfl, HO.out.1, HO.out.2, by omega, Lib.hid ⟨hh.out.1, fun k h1 h2 => ?_⟩⟩, by simp [intOf]; omega⟩
        by_cases hk : k = j
        · subst hk
          rw [HX.out.1]
          exact fun e => HX.out.2 (Option.some.inj e)
        · exact hh.out.2 k h1 (by omega)
    · obtain rfl : j = s.size := by omega
      have hlast : splN c (s.data.toList.drop a) s.data.toList.length = [s.data.toList.drop a] := by
        apply sp_plain
        have := no_piece hh.out.2
        rw [List.take_of_length_le (by rw [List.length_drop, HL.out]; omega)] at this
        exact this
      have HLA := Lib.hid hlast
      clear hlast
      go_wp2_with (at_builtin; refine wpList_append_gs rfl (.tmp 28) (.tmp 32) 36 rfl w.heap.size 9 infoStr rfl (by omega) Tryz.underlying36 _ _ _ rfl (HO.out.1.alloc _) _ 1 1 _ rfl (by exact Gs.lit _ [.string (s.extract a s.size)] 1 rfl (by unfold maxLen; omega) _ rfl _) (sv_one [s.extract a s.size]) (by omega) (by simp; omega) ?_; intro v2 w2 o2 g2)
      have hb2 : Below w.heap.size w w2 := (HO.out.2.alloc hsz _).grown g2 (by simp; omega) (fun q hq => (HO.out.1.lt q hq).1)
      have o3 : w2.ownsRow w.heap.size 9 1 v2 (dn ++ [s.extract a s.size]).length (sv (dn ++ [s.extract a s.size])) := by
        rw [List.length_append, sv_append]
        exact o2
      go_ret
      refine ⟨v2, _, rfl, o3, ?_, hb2⟩
      rw [hh.out.1, HLA.out, bts_snoc, cut_piece, List.take_of_length_le (by rw [List.length_drop, HL.out]; omega)]
end Go.Proofs.YtoagfmonfgagbaaGreatDoor
