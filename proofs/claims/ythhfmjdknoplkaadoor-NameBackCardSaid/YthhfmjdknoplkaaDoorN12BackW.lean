/-
  stockadelaw12.NameBack answers true, whatever is handed in. Conditions: those of the slices; what the program's text has laid (internal/bytealg.MaxLen holds an int).
-/
import Derived.Test.YthhfmjdknoplkaaDoorN12LabelsW
import Derived.Test.YthhfmjdknoplkaaDoorLw12
import Derived.Test.YthhfmjdknoplkaaDoorKitU
import Derived.Deep.DeepCutAuto
import Derived.IntWalk
namespace Go.Proofs.YthhfmjdknoplkaaDoor
open Go.RowKit
set_option maxRecDepth 100000

/-- So far in capitals. -/
def raisedTo (us : List Bool) (a w : List UInt8) (k : Nat) : List UInt8 := a ++ (raised us (w.take k) ++ w.drop k)
theorem raised_take_len (us : List Bool) (w : List UInt8) {k : Nat} (h : k ≤ w.length) : (raised us (w.take k)).length = k := by rw [raised_length, List.length_take]; omega
theorem raisedTo_at {us : List Bool} {a w : List UInt8} {k : Nat} {x : UInt8} (h : w[k]? = some x) : (raisedTo us a w k)[a.length + k]? = some x := by
  have hk := (List.getElem?_eq_some_iff.1 h).1
  unfold raisedTo
  rw [List.getElem?_append_right (by omega), Nat.add_sub_cancel_left, List.getElem?_append_right (by rw [raised_take_len us w (by omega)]; omega), raised_take_len us w (by omega), Nat.sub_self, List.getElem?_drop, Nat.add_zero, h]
theorem raised_none : ∀ (us : List Bool) (l : List UInt8), us.length ≤ 0 → raised us l = l
  | [], l, _ => raised_nil l
  | _ :: _, _, h => by simp at h
theorem raised_snoc (us : List Bool) (w : List UInt8) (k : Nat) {x : UInt8} (h : w[k]? = some x) : raised us (w.take (k + 1)) = raised us (w.take k) ++ [if us[k]? = some true then raiseB true x else x] := by
  have hk := (List.getElem?_eq_some_iff.1 h).1
  rw [List.take_add_one, h]
  show raised us (w.take k ++ [x]) = _
  rw [raised_append, List.length_take, Nat.min_eq_left (by omega)]
  congr 1
  cases hd : us.drop k with
  | nil =>
    have : us[k]? = none := by
      have := congrArg List.length hd
      rw [List.length_drop, List.length_nil] at this
      exact List.getElem?_eq_none (by omega)
    rw [this, raised_nil]
    simp
  | cons u r =>
    have hu : us[k]? = some u := by
      have := congrArg (fun t : List Bool => t[0]?) hd
      simpa using this
    rw [hu]
    have e : raised (u :: r) [x] = [raiseB u x] := by cases r <;> rfl
    rw [e]
    cases u with
    | true => simp
    | false =>
      have : raiseB false x = x := by unfold raiseB; simp
      rw [this]
      simp
theorem raisedTo_set {us : List Bool} {a w : List UInt8} {k : Nat} {x : UInt8} (h : w[k]? = some x) : raisedTo us a w (k + 1) = (raisedTo us a w k).set (a.length + k) (if us[k]? = some true then raiseB true x else x) := by
  have hk := (List.getElem?_eq_some_iff.1 h).1
  unfold raisedTo
  rw [List.set_append_right _ _ (by omega), Nat.add_sub_cancel_left, List.set_append_right _ _ (by rw [raised_take_len us w (by omega)]; omega), raised_take_len us w (by omega), Nat.sub_self, raised_snoc us w k h, drop_at h]
  simp
theorem raisedTo_same {us : List Bool} {a w : List UInt8} {k : Nat} {x : UInt8} (h : w[k]? = some x) (hx : (if us[k]? = some true then raiseB true x else x) = x) : raisedTo us a w (k + 1) = raisedTo us a w k := by
  rw [raisedTo_set h, hx]
  have h1 := raisedTo_at (us := us) (a := a) h
  obtain ⟨h2, h3⟩ := List.getElem?_eq_some_iff.1 h1
  conv => lhs; rw [← h3]
  exact List.set_getElem_self h2
theorem raisedTo_len (us : List Bool) (a w : List UInt8) {k : Nat} (h : k ≤ w.length) : (raisedTo us a w k).length = a.length + w.length := by
  unfold raisedTo
  rw [List.length_append, List.length_append, raised_take_len us w h, List.length_drop]
  omega
theorem raise_sub {x : UInt8} (h : 97 ≤ x.toNat ∧ x.toNat ≤ 122) : ((raiseB true x).toNat : Int) = (x.toNat : Int) - 32 := by
  unfold raiseB
  rw [if_pos ⟨rfl, h.1, h.2⟩, UInt8.toNat_sub_of_le _ _ (by rw [UInt8.le_iff_toNat_le]; show 32 ≤ _; omega)]
  show ((x.toNat - 32 : Nat) : Int) = _
  omega
theorem raise_not {x : UInt8} (h : ¬ (97 ≤ x.toNat ∧ x.toNat ≤ 122)) : raiseB true x = x := by
  unfold raiseB
  rw [if_neg (fun h' => h h'.2)]
theorem lit_back {na : Nat} (h : na ≤ 500) : (#[Value.int .u8 1, .int .u8 122, .int .u8 (192 + (na : Int) / 256), .int .u8 ((na : Int) % 256)] : Array Value).toList = bv [1, 122, UInt8.ofNat (192 + na / 256), UInt8.ofNat (na % 256)] := by
  simp [bv]
  omega
theorem below_of_none {w w' : World} (h : w.grownBy w' none) : Below w.heap.size w w' := ⟨h.os, h.tape, h.output, h.size, fun i hi => h.block i hi (by simp)⟩
set_option maxHeartbeats 3000000 in
theorem nameBack {s : ByteArray} (hs : s.size ≤ 9223372036854775807) {A B : Option Addr} {na ca nb cb : Nat} {la lb : List UInt8} {U : Option Addr} {un uc : Nat} {us : List Bool} {w : World} (ha : Bs w A na ca la) (hb : Bs w B nb cb lb) (hu : Gs w U un uc (uv us)) (hE : Env w) : Calls Tryd.prog 3 #[.string s, .slice A na ca, .slice B nb cb, .slice U un uc] w fun e w' => e = .returned (.bool true) ∧ Below w.heap.size w w' := by
  have KP := Lib.hid (playName_any s hs w)
  obtain ⟨hr, h60⟩ := playN_right s.data.toList
  generalize playN s.data.toList = p at KP hr h60
  have hna := Nat.le_trans ha.cap ha.max
  have hnb := Nat.le_trans hb.cap hb.max
  have hnu := Nat.le_trans hu.cap hu.max
  unfold maxLen at hna hnb hnu
  have hlu : us.length = un := by have := hu.len; unfold uv at this; rw [List.length_map] at this; exact this
  have HA := Lib.hid (And.intro ha (And.intro hb hu))
  have HE := Lib.hid hE
  have hal := ha.len
  have hbl := hb.len
  clear ha hb hu
  by_cases hbig : 500 < na ∨ 500 < nb
  · rcases (show 500 < na ∨ ¬ 500 < na ∧ 500 < nb by omega) with d1 | ⟨d1, d2⟩
    all_goals
      clear hbig hE
      go_enter Tryd.func3, Tryd.ntmps3
      go_wp2_with fail
      refine KP.out.mono ?_
      rintro e w1 ⟨rfl, b1⟩
      have H1 := Lib.hid b1
      clear b1
      go_wp2_with fail
      refine (awake12 (HE.out.later H1.out (Nat.le_refl _))).mono ?_
      rintro e w2 ⟨rfl, b2⟩
      have H2 := Lib.hid (H1.out.trans (b2.mono H1.out.size))
      clear b2
      go_wp2_with fail
      go_ret
      exact ⟨rfl, H2.out⟩
  · have hna5 : na ≤ 500 := by omega
    have hnb5 : nb ≤ 500 := by omega
    have hwv : writev p = writeB p := if_pos hr
    have hwe : writee p = ⟨0, 0, false⟩ := if_pos hr
    have KW := fun w1 (hb : Below w.heap.size w w1) => write_any (mkS p) (by rw [mkS_size]; omega) (hE.later hb (Nat.le_refl _))
    rw [mkS_data, hwv, hwe] at KW
    obtain ⟨W, hW⟩ : ∃ W, writeB p = W := ⟨_, rfl⟩
    have hwl : (writeB p).length ≤ 62 ∧ 1 ≤ (writeB p).length := by rw [writeB_length]; split <;> omega
    rw [hW] at KW hwl
    obtain ⟨q, hq⟩ : ∃ q, W.length = q := ⟨_, rfl⟩
    rw [hq] at KW hwl
    have HK := Lib.hid KW
    have HW := Lib.hid (And.intro hW (And.intro hq hr))
    clear KW hW hq hwv hwe hbig hE hr
    go_enter Tryd.func3, Tryd.ntmps3
    go_wp2_with fail
    refine KP.out.mono ?_
    rintro e w1 ⟨rfl, b1⟩
    have H1 := Lib.hid b1
    clear b1
    go_wp2_with fail
    refine (HK.out w1 H1.out).mono ?_
    rintro e w2 ⟨A2, c2, v2, rfl, o2, t2, b2⟩
    obtain rfl := Tells.none' t2 rfl
    obtain ⟨A', c', e1, hB2⟩ := Bs.of_own o2
    injection e1 with e1 _ e2
    subst e1 e2
    have hB := H1.out.trans (b2.mono H1.out.size)
    have H2 := Lib.hid (And.intro (HA.out.1.later hB (Nat.le_refl _)) (And.intro hB2 hB))
    clear o2 t2 b2 hB2 hB
    go_wp2_with (first
      | (at_builtin; refine wpList_append_bs rfl (.const (.slice none 0 0)) (.tmp 38) 22 rfl w2.heap.size 5 info5 Tryd.underlying22 _ 0 [] rfl (World.ownsRow_nil _ _ _ _) _ na ca la rfl H2.out.1 (by omega) (Nat.le_refl _) ?_; intro v3 w3 o3 g3 n3 m3; have H3 := Lib.hid (And.intro o3 g3); clear o3 g3 n3 m3)
      | (at_builtin; refine wpList_append_bs rfl (.tmp 39) (.tmp 40) 22 rfl w2.heap.size 5 info5 Tryd.underlying22 _ (0 + na) ([] ++ la) rfl H3.out.1 _ q c2 W rfl (H2.out.2.1.later (below_of_none H3.out.2) (Nat.le_refl _)) (by omega) H3.out.2.size ?_; intro v4 w4 o4 g4 n4 m4; have H4 := Lib.hid (And.intro o4 g4); clear o4 g4 n4 m4))
    have hb3 := below_of_none H3.out.2
    have hb4 : Below w2.heap.size w2 w4 := hb3.grown H4.out.2 hb3.size (fun q hq => (H3.out.1.lt q hq).1)
    obtain ⟨hq62, hq1⟩ := hwl
    have o5 : w4.ownsRow w2.heap.size 5 1 v4 (na + q) (bv (la ++ W)) := owns_n (by omega) H4.out.1
    obtain ⟨g, cap, rfl, hncap, hcapm⟩ : ∃ g cap, v4 = .slice (some ⟨g, 0, none⟩) (na + q) cap ∧ na + q ≤ cap ∧ cap ≤ maxLen := by
      rcases o5.2 with ⟨_, h⟩ | ⟨g, cap, cur, rfl, _, _, h1, h2, _⟩
      · omega
      · exact ⟨g, cap, rfl, h1, h2⟩
    unfold maxLen at hcapm
    have H5 := Lib.hid (And.intro o5 hb4)
    clear o5 hb3 hb4
    go_loopw [12] (fun i wr => ∃ k : Nat, k ≤ q ∧ i = .int .i64 ((na : Int) + (k : Int)) ∧ wr.ownsRow w2.heap.size 5 1 (.slice (some ⟨g, 0, none⟩) (na + q) cap) (na + q) (bv (raisedTo us la W k)) ∧ Below w2.heap.size w2 wr) (fun i _ => na + q - (intOf i).toNat)
    case atStart => exact ⟨0, Nat.zero_le _, by simp, by unfold raisedTo; simpa [raised] using H5.out.1, H5.out.2⟩
    case round =>
      obtain ⟨k, hk, rfl, ho, hbe⟩ := hrel
      have hsub : (na : Int) + (k : Int) - (na : Int) = (k : Int) := by omega
      by_cases hlt : k < q
      · obtain ⟨x, hx⟩ : ∃ x, W[k]? = some x := ⟨W[k]'(by rw [HW.out.2.1]; exact hlt), List.getElem?_eq_getElem _⟩
        have hat := raisedTo_at (us := us) (a := la) hx
        rw [hal] at hat
        obtain ⟨⟨p', hp', hc⟩, hfz⟩ := own_cell ho (j := na + k) (by omega)
        rw [hat] at hp'
        obtain rfl := Option.some.inj hp'
        have hput := own_put ho hbe (Nat.le_refl _) (na + k) (.int .u8 ((raiseB true x).toNat : Int)) (raiseB true x) rfl
        have hU := (HA.out.2.2.later (H2.out.2.2.trans (hbe.mono H2.out.2.2.size)) (Nat.le_refl _))
        have HX := Lib.hid (And.intro hx hat)
        have HO := Lib.hid (And.intro ho hbe)
        have HP := Lib.hid hput
        clear hx hat ho hbe hput hp'
        by_cases hku : k < un
        · obtain ⟨u, hu⟩ : ∃ u, us[k]? = some u := ⟨us[k]'(by omega), List.getElem?_eq_getElem _⟩
          obtain ⟨bu, ou, rfl, hcu⟩ := hU.get (k := k) (x := .bool u) (by unfold uv; rw [List.getElem?_map, hu]; rfl)
          have HUU := Lib.hid hu
          clear hU hu
          cases u with
          | false =>
            go_wp2_with fail
            refine ⟨⟨k + 1, hlt, by push_cast; congr 1, by rw [raisedTo_same HX.out.1 (by rw [HUU.out]; exact if_neg (by simp))]; exact HO.out.1, HO.out.2⟩, by simp [intOf]; omega⟩
          | true =>
            by_cases h97 : 97 ≤ x.toNat
            · by_cases h122 : x.toNat ≤ 122
              · have hr := raise_sub ⟨h97, h122⟩
                rw [hr] at HP
                clear hr
                go_wp2_with fail
                refine ⟨⟨k + 1, hlt, by push_cast; congr 1, by rw [raisedTo_set HX.out.1, HUU.out, if_pos rfl, hal]; exact HP.out.1, HP.out.2⟩, by simp [intOf]; omega⟩
              · go_wp2_with fail
                refine ⟨⟨k + 1, hlt, by push_cast; congr 1, by rw [raisedTo_same HX.out.1 (by rw [HUU.out, if_pos rfl]; exact raise_not (by omega))]; exact HO.out.1, HO.out.2⟩, by simp [intOf]; omega⟩
            · go_wp2_with fail
              refine ⟨⟨k + 1, hlt, by push_cast; congr 1, by rw [raisedTo_same HX.out.1 (by rw [HUU.out, if_pos rfl]; exact raise_not (by omega))]; exact HO.out.1, HO.out.2⟩, by simp [intOf]; omega⟩
        · have hnone : us[k]? = none := List.getElem?_eq_none (by omega)
          have HUU := Lib.hid hnone
          clear hU hnone
          go_wp2_with fail
          refine ⟨⟨k + 1, hlt, by push_cast; congr 1, by rw [raisedTo_same HX.out.1 (by rw [HUU.out]; exact if_neg (by simp))]; exact HO.out.1, HO.out.2⟩, by simp [intOf]; omega⟩
      · obtain rfl : k = q := by omega
        have hrw : raisedTo us la W k = la ++ raised us W := by
          unfold raisedTo
          rw [List.take_of_length_le (by rw [HW.out.2.1]; exact Nat.le_refl _), List.drop_eq_nil_of_le (by rw [HW.out.2.1]; exact Nat.le_refl _), List.append_nil]
        rw [hrw] at ho
        have HO := Lib.hid (And.intro ho hbe)
        have hbB := (HA.out.2.1.later (H2.out.2.2.trans (hbe.mono H2.out.2.2.size)) (Nat.le_refl _))
        have HBB := Lib.hid hbB
        clear hrw ho hbe hbB
        go_upto_region 13 with (at_builtin; refine wpList_append_bs rfl (.tmp 90) (.tmp 91) 22 rfl w2.heap.size 5 info5 Tryd.underlying22 _ (na + k) (la ++ raised us W) rfl HO.out.1 _ nb cb lb rfl HBB.out (by omega) HO.out.2.size ?_; intro v6 w6 o6 g6 n6 m6; have H6 := Lib.hid (And.intro o6 g6); clear o6 g6 n6 m6)
        have hb6 : Below w2.heap.size w2 w6 := HO.out.2.grown H6.out.2 HO.out.2.size (fun q hq => (HO.out.1.lt q hq).1)
        have o6 := H6.out.1
        rw [List.append_assoc] at o6
        obtain ⟨A6, c6, rfl, hB6⟩ := Bs.of_own o6
        have hrd : readv (la ++ (raised us W ++ lb)) (na + k + nb) ((na : Nat) : Int) = .ok p (na + k) := by
          have h := back_read HW.out.2.2 us (l := la ++ (raised us (writeB p) ++ lb)) (ahead := la) (behind := lb) (n := na + k + nb) (by rw [HW.out.1]; exact hB6.len) rfl (at_ := na) hal
          rw [HW.out.1, HW.out.2.1] at h
          exact h
        have K1 := Lib.hid (read_fine hB6 (by omega) ((na : Nat) : Int) (by omega) hrd)
        have H7 := Lib.hid (And.intro o6 hb6)
        have hcap6 := hB6.cap
        have hmax6 := hB6.max
        unfold maxLen at hmax6
        clear o6 hb6 hB6 hrd
        go_wp2_with fail
        refine K1.out.mono ?_
        rintro e w7 ⟨rfl, b7⟩
        have H8 := Lib.hid (And.intro trivial (And.intro trivial (And.intro (own_kept H7.out.1 b7) (H7.out.2.trans (b7.mono H7.out.2.size)))))
        clear b7
        go_upto_region 16 with (at_builtin; refine wpList_append_bs rfl (.tmp 103) (.tmp 112) 22 rfl w2.heap.size 5 info5 Tryd.underlying22 _ (na + k + nb) (la ++ (raised us W ++ lb)) rfl (H8.out.2.2.1.alloc _) _ 4 4 [1, 122, UInt8.ofNat (192 + na / 256), UInt8.ofNat (na % 256)] rfl (by exact Bs.lit _ [1, 122, UInt8.ofNat (192 + na / 256), UInt8.ofNat (na % 256)] 4 rfl (by unfold maxLen; omega) _ (lit_back hna5) _) (by omega) (by have := H8.out.2.2.2.size; simp; omega) ?_; intro v9 w9 o9 g9 n9 m9; have H9 := Lib.hid (And.intro o9 g9); clear o9 g9 n9 m9)
        have hb9 : Below w2.heap.size w2 w9 := (H8.out.2.2.2.alloc H8.out.2.2.2.size _).grown H9.out.2 (by have := H8.out.2.2.2.size; simp; omega) (fun q hq => (H8.out.2.2.1.lt q hq).1)
        have o9 := H9.out.1
        obtain ⟨A9, c9, rfl, hB9⟩ := Bs.of_own o9
        have hrd2 : readv ((la ++ (raised us W ++ lb)) ++ [1, 122, UInt8.ofNat (192 + na / 256), UInt8.ofNat (na % 256)]) (na + k + nb + 4) ((na + k + nb : Nat) : Int) = .ok (if p = [] then [122] else 122 :: 46 :: p) (na + k + nb + 4) := by
          have h := back_ptr HW.out.2.2 h60 us (ahead := la) (behind := lb) hal hna5 (x := UInt8.ofNat (192 + na / 256)) (y := UInt8.ofNat (na % 256)) (by rw [UInt8.toNat_ofNat']; omega) (by rw [UInt8.toNat_ofNat']; omega) (l := (la ++ (raised us W ++ lb)) ++ [1, 122, UInt8.ofNat (192 + na / 256), UInt8.ofNat (na % 256)]) (by rw [HW.out.1]; simp) hB9.len (at_ := na + k + nb) rfl
          exact h
        obtain ⟨z, hz⟩ : ∃ z, (if p = [] then [122] else 122 :: 46 :: p) = z := ⟨_, rfl⟩
        rw [hz] at hrd2
        have K2 := Lib.hid (read_fine hB9 (by omega) ((na + k + nb : Nat) : Int) (by omega) hrd2)
        have H10 := Lib.hid (H2.out.2.2.trans (hb9.mono H2.out.2.2.size))
        have hcap9 := hB9.cap
        have hmax9 := hB9.max
        unfold maxLen at hmax9
        have hcat : (⟨#[122, 46]⟩ : ByteArray) ++ mkS p = mkS (122 :: 46 :: p) := mkS_append [122, 46] p
        have hps : (mkS p).size = p.length := mkS_size p
        have hm1 : ¬ 9223372036854775807 < 2 + p.length := by omega
        clear o9 hb9 hB9 hrd2
        by_cases hp0 : p = []
        · rw [if_pos hp0] at hz
          subst hz
          have he := mkS_empty hp0
          clear hp0
          rw [show mkS [122] = ⟨#[122]⟩ from rfl] at K2
          go_wp2_with fail
          refine K2.out.mono ?_
          rintro e w10 ⟨rfl, b10⟩
          have H11 := Lib.hid (H10.out.trans (b10.mono H10.out.size))
          clear b10
          go_wp2_with fail
          refine (awake12 (HE.out.later H11.out (Nat.le_refl _))).mono ?_
          rintro e w11 ⟨rfl, b11⟩
          have H12 := Lib.hid (H11.out.trans (b11.mono H11.out.size))
          clear b11
          go_wp2_with fail
          go_ret
          exact ⟨rfl, H12.out⟩
        · rw [if_neg hp0] at hz
          subst hz
          have he := mkS_some hp0
          clear hp0
          go_wp2_with fail
          refine K2.out.mono ?_
          rintro e w10 ⟨rfl, b10⟩
          have H11 := Lib.hid (H10.out.trans (b10.mono H10.out.size))
          clear b10
          go_wp2_with fail
          refine (awake12 (HE.out.later H11.out (Nat.le_refl _))).mono ?_
          rintro e w11 ⟨rfl, b11⟩
          have H12 := Lib.hid (H11.out.trans (b11.mono H11.out.size))
          clear b11
          go_wp2_with fail
          go_ret
          exact ⟨rfl, H12.out⟩
end Go.Proofs.YthhfmjdknoplkaaDoor
