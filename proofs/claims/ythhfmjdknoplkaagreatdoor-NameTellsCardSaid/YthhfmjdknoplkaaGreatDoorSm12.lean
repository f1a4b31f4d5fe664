/-
  Package name's small, label. Conditions: those of the slice; 2^47 bytes at most.
-/
import Derived.Test.YthhfmjdknoplkaaGreatDoorLab12
import Derived.Test.YthhfmjdknoplkaaGreatDoorNeed
namespace Go.Proofs.YthhfmjdknoplkaaGreatDoor
open Go.RowKit
set_option maxRecDepth 100000

theorem lowK_at {l : List UInt8} {k : Nat} {x : UInt8} (h : l[k]? = some x) : (lowL (l.take k) ++ l.drop k)[k]? = some x := by
  have hk := (List.getElem?_eq_some_iff.1 h).1
  rw [List.getElem?_append_right (by rw [lowL_length, List.length_take]; omega), lowL_length, List.length_take, Nat.min_eq_left (by omega), Nat.sub_self, List.getElem?_drop, Nat.add_zero, h]
theorem lowK_set {l : List UInt8} {k : Nat} {x : UInt8} (h : l[k]? = some x) : (lowL (l.take k) ++ l.drop k).set k (lowB x) = lowL (l.take (k + 1)) ++ l.drop (k + 1) := by
  have hk := (List.getElem?_eq_some_iff.1 h).1
  rw [List.set_append_right _ _ (by rw [lowL_length, List.length_take]; omega), lowL_length, List.length_take, Nat.min_eq_left (by omega), Nat.sub_self, drop_at h, List.take_add_one, h]
  unfold lowL
  simp
theorem lowK_same {l : List UInt8} {k : Nat} {x : UInt8} (h : l[k]? = some x) (hx : ¬ capB x) : lowL (l.take k) ++ l.drop k = lowL (l.take (k + 1)) ++ l.drop (k + 1) := by
  rw [← lowK_set h, lowB_not hx]
  symm
  have h1 := lowK_at h
  obtain ⟨h2, h3⟩ := List.getElem?_eq_some_iff.1 h1
  conv => lhs; rw [← h3]
  exact List.set_getElem_self h2

set_option maxHeartbeats 2000000 in
theorem small_any {A : Option Addr} {n c : Nat} {l : List UInt8} {w : World} (hb : Bs w A n c l) (h47 : n ≤ 140737488350000) : Calls Tryz.prog 61 #[.slice A n c] w fun e w' => e = .returned (.string (mkS (lowL l))) ∧ Below w.heap.size w w' := by
  have K := Lib.hid (clone_any hb (by omega))
  have hlen := hb.len
  clear hb
  by_cases h0 : n = 0
  · subst h0
    obtain rfl := List.eq_nil_of_length_eq_zero hlen
    go_enter Tryz.func61, Tryz.ntmps61
    go_wp2_with fail
    refine K.out.mono ?_
    rintro e w1 ⟨v1, rfl, o1, b1⟩
    obtain ⟨A', c', rfl, hB⟩ := Bs.of_own o1
    have hcv := hB.convert (P := Tryz.prog) 22 5 9 Tryz.underlying22 Tryz.underlying5 Tryz.underlying9
    have H1 := Lib.hid b1
    clear o1 b1 hB hlen
    go_wp2_with fail
    go_loop [10] (fun i => i = .int .i64 0) (fun i => 0)
    case atStart => rfl
    case round =>
      subst hrel
      go_wp2_with fail
      go_ret
      exact ⟨rfl, H1.out⟩
  · have HL := Lib.hid hlen
    clear hlen
    go_enter Tryz.func61, Tryz.ntmps61
    go_wp2_with fail
    refine K.out.mono ?_
    rintro e w1 ⟨v1, rfl, o1, b1⟩
    obtain ⟨g, cap, rfl, hncap, hcapm⟩ : ∃ g cap, v1 = .slice (some ⟨g, 0, none⟩) n cap ∧ n ≤ cap ∧ cap ≤ maxLen := by
      rcases o1.2 with ⟨_, h⟩ | ⟨g, cap, cur, rfl, _, _, h1, h2, _⟩
      · exact absurd h h0
      · exact ⟨g, cap, rfl, h1, h2⟩
    unfold maxLen at hcapm
    have H1 := Lib.hid (And.intro o1 b1)
    clear o1 b1
    go_wp2_with fail
    go_loopw [10] (fun i wr => ∃ k : Nat, k ≤ n ∧ i = .int .i64 k ∧ wr.ownsRow w.heap.size 5 1 (.slice (some ⟨g, 0, none⟩) n cap) n (bv (lowL (l.take k) ++ l.drop k)) ∧ Below w.heap.size w wr) (fun i _ => n - (intOf i).toNat)
    case atStart => exact ⟨0, Nat.zero_le _, rfl, by simpa [lowL] using H1.out.1, H1.out.2⟩
    case round =>
      obtain ⟨k, hk, rfl, ho, hbe⟩ := hrel
      by_cases hlt : k < n
      · obtain ⟨x, hx⟩ : ∃ x, l[k]? = some x := ⟨l[k]'(by rw [HL.out]; exact hlt), List.getElem?_eq_getElem _⟩
        obtain ⟨⟨p, hp, hc⟩, hfz⟩ := own_cell ho hlt
        rw [lowK_at hx] at hp
        obtain rfl := Option.some.inj hp
        have hput := own_put ho hbe (Nat.le_refl _) k (.int .u8 ((lowB x).toNat : Int)) (lowB x) rfl
        rw [lowK_set hx] at hput
        have KC := Lib.hid (capital_any x wr)
        have HX := Lib.hid (And.intro hx (And.intro ho hbe))
        have HP := Lib.hid hput
        clear hx hp ho hbe hput
        by_cases hcx : capB x
        · rw [decide_eq_true hcx] at KC
          have hlow : ((lowB x).toNat : Int) = (x.toNat : Int) + 32 := by
            rw [(lowB_cap hcx).1, UInt8.toNat_add]
            have := hcx.2
            show (((x.toNat + 32) % 256 : Nat) : Int) = _
            omega
          have hr := hcx
          unfold capB at hr
          rw [hlow] at HP
          clear hcx hlow
          go_wp2_with fail
          refine KC.out.mono ?_
          rintro e w' ⟨rfl, rfl⟩
          go_wp2_with fail
          refine ⟨⟨k + 1, hlt, by go_num, HP.out.1, HP.out.2⟩, by simp [intOf]; omega⟩
        · rw [decide_eq_false hcx] at KC
          have HS := Lib.hid (lowK_same HX.out.1 hcx)
          clear hcx
          go_wp2_with fail
          refine KC.out.mono ?_
          rintro e w' ⟨rfl, rfl⟩
          go_wp2_with fail
          refine ⟨⟨k + 1, hlt, by go_num, by rw [← HS.out]; exact HX.out.2.1, HX.out.2.2⟩, by simp [intOf]; omega⟩
      · obtain rfl : k = n := by omega
        obtain ⟨A', c', e1, hB⟩ := Bs.of_own ho
        rw [List.take_of_length_le (by rw [HL.out]; exact Nat.le_refl _), List.drop_eq_nil_of_le (by rw [HL.out]; exact Nat.le_refl _), List.append_nil] at hB
        injection e1 with e1 _ e2
        subst e1 e2
        have hcv := hB.convert (P := Tryz.prog) 22 5 9 Tryz.underlying22 Tryz.underlying5 Tryz.underlying9
        have HW := Lib.hid hbe
        clear ho hbe hB
        go_wp2_with fail
        go_ret
        exact ⟨rfl, HW.out⟩

/-- What label answers. -/
def labv (l : List UInt8) (n k : Nat) (room : Int) : List UInt8 × Int :=
  if 192 ≤ k then ([], 14) else if 63 < k then ([], 12) else if n < k then ([], 3) else if ¬ labOk (lowL (l.take k)) then ([], 12) else if room < 1 + (k : Int) then ([], 13) else (lowL (l.take k), 0)
/-- A number as an error. -/
def errV (c : Int) : Value := if c = 0 then .nilIface else .iface 29 (.int .i64 c)
set_option maxHeartbeats 2000000 in
theorem label_any {A : Option Addr} {n c : Nat} {l : List UInt8} {w : World} (hb : Bs w A n c l) (k : Nat) (hk : k < 256) (room : Int) : Calls Tryz.prog 40 #[.slice A n c, .int .i64 k, .int .i64 room] w fun e w' =>
    e = .returned (.tuple #[.string (mkS (labv l n k room).1), errV (labv l n k room).2]) ∧ Below w.heap.size w w' := by
  have hcap := hb.cap
  have hmax := hb.max
  unfold maxLen at hmax
  have HN := Lib.hid hb.none_
  unfold labv
  by_cases h1 : 192 ≤ k
  · rw [if_pos h1]
    clear hb
    go_enter Tryz.func40, Tryz.ntmps40
    go_wp2_with fail
    go_ret2
    exact ⟨rfl, Below.refl _ _⟩
  · rw [if_neg h1]
    by_cases h2 : 63 < k
    · rw [if_pos h2]
      clear hb
      go_enter Tryz.func40, Tryz.ntmps40
      go_wp2_with fail
      go_ret2
      exact ⟨rfl, Below.refl _ _⟩
    · rw [if_neg h2]
      by_cases h3 : n < k
      · rw [if_pos h3]
        clear hb
        go_enter Tryz.func40, Tryz.ntmps40
        go_wp2_with fail
        go_ret2
        exact ⟨rfl, Below.refl _ _⟩
      · rw [if_neg h3]
        have hc := hb.cut (i := 0) (k := k) (by omega) (A' := A) (fun _ => by cases A <;> simp [Addr.add]) (fun h => h)
        rw [List.drop_zero, Nat.sub_zero] at hc
        have K := Lib.hid (small_any hc (by omega))
        have KW := fun w1 => Lib.hid (wrong_any (mkS (lowL (l.take k))) (by rw [mkS_size, lowL_length, List.length_take]; omega) w1)
        rw [mkS_data] at KW
        clear hb hc
        by_cases h4 : labOk (lowL (l.take k))
        · rw [if_neg (fun h => h h4)]
          rw [decide_eq_false (fun h => h h4)] at KW
          by_cases h5 : room < 1 + (k : Int)
          · rw [if_pos h5]
            generalize lowL (l.take k) = r at K KW h4 ⊢
            clear h4
            go_enter Tryz.func40, Tryz.ntmps40
            go_wp2_with fail
            refine K.out.mono ?_
            rintro e w1 ⟨rfl, b1⟩
            have H1 := Lib.hid b1
            clear b1
            go_wp2_with fail
            refine (KW w1).out.mono ?_
            rintro e w2 ⟨rfl, b2⟩
            have H2 := Lib.hid (H1.out.trans (b2.mono H1.out.size))
            clear b2
            go_wp2_with fail
            go_ret2
            exact ⟨rfl, H2.out⟩
          · rw [if_neg h5]
            generalize lowL (l.take k) = r at K KW h4 ⊢
            clear h4
            go_enter Tryz.func40, Tryz.ntmps40
            go_wp2_with fail
            refine K.out.mono ?_
            rintro e w1 ⟨rfl, b1⟩
            have H1 := Lib.hid b1
            clear b1
            go_wp2_with fail
            refine (KW w1).out.mono ?_
            rintro e w2 ⟨rfl, b2⟩
            have H2 := Lib.hid (H1.out.trans (b2.mono H1.out.size))
            clear b2
            go_wp2_with fail
            go_ret2
            exact ⟨rfl, H2.out⟩
        · rw [if_pos h4]
          rw [decide_eq_true h4] at KW
          generalize lowL (l.take k) = r at K KW h4 ⊢
          clear h4
          go_enter Tryz.func40, Tryz.ntmps40
          go_wp2_with fail
          refine K.out.mono ?_
          rintro e w1 ⟨rfl, b1⟩
          have H1 := Lib.hid b1
          clear b1
          go_wp2_with fail
          refine (KW w1).out.mono ?_
          rintro e w2 ⟨rfl, b2⟩
          have H2 := Lib.hid (H1.out.trans (b2.mono H1.out.size))
          clear b2
          go_wp2_with fail
          go_ret2
          exact ⟨rfl, H2.out⟩
end Go.Proofs.YthhfmjdknoplkaaGreatDoor
