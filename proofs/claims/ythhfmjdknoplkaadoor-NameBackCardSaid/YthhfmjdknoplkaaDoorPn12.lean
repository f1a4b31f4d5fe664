/-
  stockadeplay.Name: whatever comes of a text is a name. Conditions: the text's length is an int.
-/
import Derived.Test.YthhfmjdknoplkaaDoorWr12
namespace Go.Proofs.YthhfmjdknoplkaaDoor
open Go.RowKit
set_option maxRecDepth 100000

theorem nmRun_step {l out : List UInt8} {k : Nat} {c : UInt8} (hk : l[k]? = some c) (h60 : out.length < 60) : nmRun (l.drop k) out = nmRun (l.drop (k + 1)) (nmStep out c) := by
  rw [drop_at hk]
  conv => lhs; unfold nmRun
  rw [if_neg (by omega)]
theorem last_at {out : List UInt8} {m : Nat} (h : out.length = m + 1) : ∃ y, out[m]? = some y ∧ out.getLast? = some y := by
  have h1 : out[m]? = some (out[m]'(by omega)) := List.getElem?_eq_getElem _
  refine ⟨_, h1, ?_⟩
  rw [List.getLast?_eq_getElem?, show out.length - 1 = m by omega]
  exact h1
set_option maxHeartbeats 4000000 in
theorem playName_any (s : ByteArray) (hs : s.size ≤ 9223372036854775807) (w : World) : Calls Tryd.prog 10 #[.string s] w fun e w' => e = .returned (.string (mkS (playN s.data.toList))) ∧ Below w.heap.size w w' := by
  have HL := Lib.hid (Lib.size_eq s).symm
  obtain ⟨R, hR⟩ : ∃ R, playN s.data.toList = R := ⟨_, rfl⟩
  rw [hR]
  unfold playN at hR
  have HR := Lib.hid hR
  clear hR
  go_enter Tryd.func10, Tryd.ntmps10
  go_wp2_with fail
  go_loopw [3, 4] (fun v i wr => ∃ (k : Nat) (out : List UInt8) (n : Nat), k ≤ s.size ∧ i = .int .i64 k ∧ out.length = n ∧ n ≤ 60 ∧ wr.ownsRow w.heap.size 5 1 v n (bv out) ∧ nmRun s.data.toList [] = nmRun (s.data.toList.drop k) out ∧ Below w.heap.size w wr) (fun _ i _ => s.size - (intOf i).toNat)
  case atStart => exact ⟨0, [], 0, Nat.zero_le _, rfl, rfl, by decide, World.ownsRow_nil _ _ _ _, rfl, Below.refl _ _⟩
  case round =>
    obtain ⟨k, out, n, hk, rfl, hn, h60, ho, hrun, hbe⟩ := hrel
    obtain ⟨A, c, rfl, hB⟩ := Bs.of_own ho
    by_cases hgo : k < s.size ∧ n < 60
    · obtain ⟨hlt, hl60⟩ := hgo
      obtain ⟨x, hx, hsk⟩ := str_at (s := s) (i := k) hlt
      have hst := nmRun_step hx (by rw [hn]; exact hl60)
      have hxl := x.toNat_lt
      have HO := Lib.hid (And.intro ho (And.intro (hrun.trans hst) hbe))
      clear ho hrun hst hbe hx
      have happ : ∀ (v3 : Value) (w3 : World) (u : Value), u = .int .u8 x.toNat → nmStep out x = out ++ [x] → w3.ownsRow w.heap.size 5 1 v3 (n + 1) (bv (out ++ [x])) → (wr.alloc (.cells #[u] 5)).grownBy w3 (Value.ownBlock (.slice A n c)) → (∃ (k' : Nat) (out' : List UInt8) (n' : Nat), k' ≤ s.size ∧ Value.int IntKind.i64 ((k : Int) + 1) = .int .i64 k' ∧ out'.length = n' ∧ n' ≤ 60 ∧ w3.ownsRow w.heap.size 5 1 v3 n' (bv out') ∧ nmRun s.data.toList [] = nmRun (s.data.toList.drop k') out' ∧ Below w.heap.size w w3) := fun v3 w3 u hu hstp o3 g3 => by
        refine ⟨k + 1, out ++ [x], n + 1, hlt, by congr 1, by simp [hn], by omega, o3, by rw [← hstp]; exact HO.out.2.1, ?_⟩
        exact (HO.out.2.2.alloc HO.out.2.2.size _).grown g3 (by have := HO.out.2.2.size; simp; omega) (fun q hq => (HO.out.1.lt q hq).1)
      have HA := Lib.hid happ
      clear happ
      by_cases h46 : x.toNat = 46
      · have hx46 : x = 46 := UInt8.toNat_inj.1 h46
        by_cases h0 : n = 0
        · subst h0
          have hno : nmStep out x = out := by
            unfold nmStep
            rw [if_neg]
            rintro (⟨_, h, _⟩ | h)
            · exact h (List.eq_nil_of_length_eq_zero hn)
            · exact h.2.2.1 h46
          have HN := Lib.hid hno
          have HNN := Lib.hid hn
          clear hno hx46 hB hn
          go_wp2_with fail
          refine ⟨⟨k + 1, out, 0, hlt, by go_num, HNN.out, h60, HO.out.1, by rw [HO.out.2.1, HN.out], HO.out.2.2⟩, by simp [intOf]; omega⟩
        · obtain ⟨m, rfl⟩ : ∃ m, n = m + 1 := ⟨n - 1, by omega⟩
          obtain ⟨y, hy, hlast⟩ := last_at hn
          obtain ⟨b, off, rfl, hc⟩ := hB.here (by omega)
          have hcy := hc m y hy
          clear hc hB h0
          by_cases hy46 : y.toNat = 46
          · have hno : nmStep out x = out := by
              unfold nmStep
              rw [if_neg]
              rintro (⟨_, _, h⟩ | h)
              · exact h (by rw [hlast, UInt8.toNat_inj.1 (hy46.trans (show 46 = (46 : UInt8).toNat from rfl))])
              · exact h.2.2.1 h46
            have HN := Lib.hid hno
            have HNN := Lib.hid hn
            clear hno hx46 hlast hy hn
            go_wp2_with fail
            refine ⟨⟨k + 1, out, m + 1, hlt, by go_num, HNN.out, h60, HO.out.1, by rw [HO.out.2.1, HN.out], HO.out.2.2⟩, by simp [intOf]; omega⟩
          · have hyes : nmStep out x = out ++ [x] := by
              unfold nmStep
              rw [if_pos (.inl ⟨hx46, fun e => by rw [e] at hn; simp at hn, fun e => by rw [hlast] at e; exact hy46 (by rw [Option.some.inj e]; rfl)⟩)]
            have hu : Value.int IntKind.u8 46 = .int .u8 (x.toNat : Int) := by rw [h46]; rfl
            have HN := Lib.hid hyes
            have HNN := Lib.hid hn
            have HU := Lib.hid hu
            have hy46' : ((y.toNat : Int) != 46) = true := by rw [bne_iff_ne]; omega
            clear hyes hx46 hlast hy hn hy46 hu
            go_wp2_with (at_builtin; refine wpList_append_bs rfl (.tmp 58) (.tmp 60) 22 rfl w.heap.size 5 info5 Tryd.underlying22 _ (m + 1) out rfl (HO.out.1.alloc _) _ 1 1 [x] rfl (by exact Bs.lit _ [x] 1 rfl (by unfold maxLen; omega) _ (by rw [HU.out]; rfl) _) (by omega) (by have := HO.out.2.2.size; simp; omega) ?_; intro v3 w3 o3 g3 n3 m3; have H3 := Lib.hid (And.intro o3 g3); clear o3 g3 n3 m3)
            refine ⟨HA.out v3 w3 _ HU.out HN.out H3.out.1 H3.out.2, by simp [intOf]; omega⟩
      · by_cases hsg : sign x
        · have hyes : nmStep out x = out ++ [x] := by
            unfold nmStep
            rw [if_pos (.inr hsg)]
          have HN := Lib.hid hyes
          have HNN := Lib.hid hn
          clear hyes hn hB
          unfold sign at hsg
          have hb46 : ((x.toNat : Int) == 46) = false := by rw [beq_eq_false_iff_ne]; omega
          have hn46 : ((x.toNat : Int) != 46) = true := by rw [bne_iff_ne]; omega
          have h32 : 32 < x.toNat := by omega
          have h127 : x.toNat < 127 := by omega
          rcases (show x.toNat < 65 ∨ ¬ x.toNat < 65 ∧ 90 < x.toNat by omega) with h65 | ⟨h65, h90⟩
          all_goals
            clear hsg h46
            go_wp2_with (at_builtin; refine wpList_append_bs rfl (.tmp 58) (.tmp 60) 22 rfl w.heap.size 5 info5 Tryd.underlying22 _ n out rfl (HO.out.1.alloc _) _ 1 1 [x] rfl (by exact Bs.lit _ [x] 1 rfl (by unfold maxLen; omega) _ rfl _) (by omega) (by have := HO.out.2.2.size; simp; omega) ?_; intro v3 w3 o3 g3 n3 m3; have H3 := Lib.hid (And.intro o3 g3); clear o3 g3 n3 m3)
            refine ⟨HA.out v3 w3 _ rfl HN.out H3.out.1 H3.out.2, by simp [intOf]; omega⟩
        · have hno : nmStep out x = out := by
            unfold nmStep
            rw [if_neg]
            rintro (⟨h, _⟩ | h)
            · exact h46 (by rw [h]; rfl)
            · exact hsg h
          have HN := Lib.hid hno
          have HNN := Lib.hid hn
          clear hno hn hB
          unfold sign at hsg
          have hb46 : ((x.toNat : Int) == 46) = false := by rw [beq_eq_false_iff_ne]; omega
          have hn46 : ((x.toNat : Int) != 46) = true := by rw [bne_iff_ne]; omega
          rcases (show x.toNat ≤ 32 ∨ (32 < x.toNat ∧ 127 ≤ x.toNat) ∨ (32 < x.toNat ∧ x.toNat < 127 ∧ 65 ≤ x.toNat ∧ x.toNat ≤ 90) by omega) with h1 | ⟨h1, h2⟩ | ⟨h1, h2, h3, h4⟩
          all_goals
            clear hsg h46
            go_wp2_with fail
            refine ⟨⟨k + 1, out, n, hlt, by go_num, HNN.out, h60, HO.out.1, by rw [HO.out.2.1, HN.out], HO.out.2.2⟩, by simp [intOf]; omega⟩
    · have hend : R = trimDot out := by
        rw [← HR.out, hrun]
        by_cases hks : k < s.size
        · rw [nmRun_full (by omega)]
        · rw [List.drop_eq_nil_of_le (by rw [HL.out]; omega)]
          rfl
      have hcase : ¬ k < s.size ∨ (k < s.size ∧ n = 60) := by omega
      have HE := Lib.hid (And.intro hend hbe)
      clear hend hbe hgo hrun ho
      by_cases h0 : n = 0
      · subst h0
        obtain rfl := List.eq_nil_of_length_eq_zero hn
        have hcv := hB.convert (P := Tryd.prog) 22 5 9 Tryd.underlying22 Tryd.underlying5 Tryd.underlying9
        have hlt : ¬ k < s.size := by omega
        clear hcase hB
        go_wp2_with fail
        go_ret
        rw [HE.out.1]
        exact ⟨rfl, HE.out.2⟩
      · obtain ⟨m, rfl⟩ : ∃ m, n = m + 1 := ⟨n - 1, by omega⟩
        obtain ⟨y, hy, hlast⟩ := last_at hn
        obtain ⟨b, off, rfl, hc⟩ := hB.here (by omega)
        have hcy := hc m y hy
        have hcap := hB.cap
        clear hc h0
        by_cases hy46 : y.toNat = 46
        · have htr : trimDot out = out.take m := by
            unfold trimDot
            rw [if_pos (by rw [hlast, UInt8.toNat_inj.1 (hy46.trans (show 46 = (46 : UInt8).toNat from rfl))]), List.dropLast_eq_take, hn, Nat.add_sub_cancel]
          have hB2 := hB.cut (i := 0) (k := m) (by omega) (A' := some ⟨b, off, none⟩) (fun _ => rfl) (fun h => h)
          rw [List.drop_zero, Nat.sub_zero] at hB2
          have hcv := hB2.convert (P := Tryd.prog) 22 5 9 Tryd.underlying22 Tryd.underlying5 Tryd.underlying9
          have HT := Lib.hid htr
          clear hB hB2 htr hy hlast
          rcases hcase with hks | ⟨hks, hm⟩
          · go_wp2_with fail
            go_ret
            rw [HE.out.1, HT.out]
            exact ⟨rfl, HE.out.2⟩
          · obtain rfl : m = 59 := by omega
            go_wp2_with fail
            go_ret
            rw [HE.out.1, HT.out]
            exact ⟨rfl, HE.out.2⟩
        · have htr : trimDot out = out := by
            unfold trimDot
            rw [if_neg (fun e => by rw [hlast] at e; exact hy46 (by rw [Option.some.inj e]; rfl))]
          have hcv := hB.convert (P := Tryd.prog) 22 5 9 Tryd.underlying22 Tryd.underlying5 Tryd.underlying9
          have hb46 : ((y.toNat : Int) == 46) = false := by rw [beq_eq_false_iff_ne]; omega
          have HT := Lib.hid htr
          clear hB htr hy hlast hy46
          rcases hcase with hks | ⟨hks, hm⟩
          · go_wp2_with fail
            go_ret
            rw [HE.out.1, HT.out]
            exact ⟨rfl, HE.out.2⟩
          · obtain rfl : m = 59 := by omega
            go_wp2_with fail
            go_ret
            rw [HE.out.1, HT.out]
            exact ⟨rfl, HE.out.2⟩
end Go.Proofs.YthhfmjdknoplkaaDoor
