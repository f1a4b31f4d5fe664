/-
  stockadelaw07.Ip6Heads answers true, whatever is handed in. Conditions: those of the slice; errors.errorType holds the handle of the type error.
-/
import Derived.Test.YtceigepclemdmaaDoorKinds7
import Derived.Test.YtceigepclemdmaaDoorPk7
import Derived.Test.YtceigepclemdmaaDoorAppZ
import Derived.Test.YtceigepclemdmaaDoorFlH
import Derived.Deep.DeepCutAuto
import Derived.Deep.CutBlock
import Derived.IntWalk
namespace Go.Proofs.YtceigepclemdmaaDoor
open Go.RowKit
set_option maxRecDepth 100000

/-- A kind that is no part's. -/
def f43 (k : Int) : Int := if k = 44 then 43 else k
def fixed (ks : List Int) (j : Nat) : List Int := (ks.take j).map f43 ++ ks.drop j
theorem fixed_length (ks : List Int) (j : Nat) : (fixed ks j).length = ks.length := by simp [fixed]; omega
theorem fixed_at {ks : List Int} {j : Nat} {k : Int} (h : ks[j]? = some k) : (fixed ks j)[j]? = some k := by
  have hj := (List.getElem?_eq_some_iff.1 h).1
  unfold fixed
  rw [List.getElem?_append_right (by simp; omega)]
  simp [List.getElem?_drop, Nat.min_eq_left (Nat.le_of_lt hj), h]
theorem fixed_step {ks : List Int} {j : Nat} {k : Int} (h : ks[j]? = some k) : (fixed ks j).set j (f43 k) = fixed ks (j + 1) := by
  have hj := (List.getElem?_eq_some_iff.1 h).1
  unfold fixed
  rw [List.set_append_right _ _ (by simp; omega), List.take_add_one, h]
  simp only [List.length_map, List.length_take, Nat.min_eq_left (Nat.le_of_lt hj), Nat.sub_self, Option.toList_some, List.map_append, List.map_cons, List.map_nil, List.append_assoc]
  rw [List.drop_eq_getElem_cons hj]
  rfl
theorem fixed_same {ks : List Int} {j : Nat} {k : Int} (h : ks[j]? = some k) (hk : k ≠ 44) : fixed ks j = fixed ks (j + 1) := by
  rw [← fixed_step h]
  unfold f43
  rw [if_neg hk]
  obtain ⟨h1, h2⟩ := List.getElem?_eq_some_iff.1 (fixed_at h)
  rw [← h2, List.set_getElem_self]
theorem fixed_all (ks : List Int) : fixed ks ks.length = ks.map f43 := by simp [fixed]
theorem zv_set (l : List Int) (i : Nat) (x : Int) : (zv l).set i (.int .i64 x) = zv (l.set i x) := by simp [zv, List.map_set]
/-- Kinds of heads, none of them a part's. -/
def plainK (hs : List Int) : Prop := ∀ (i : Nat) (k : Int), hs[i]? = some k → (k = 0 ∧ i = 0) ∨ k = 43 ∨ k = 60
theorem fixed_plain {ks : List Int} (h : ∀ (i : Nat) (k : Int), ks[i]? = some k → ext k ∧ (k = 0 → i = 0)) : plainK (ks.map f43) := fun i k hk => by
  rw [List.getElem?_map] at hk
  cases hx : ks[i]? with
  | none => rw [hx] at hk; cases hk
  | some y =>
    rw [hx] at hk
    obtain rfl := Option.some.inj hk
    obtain ⟨h1, h2⟩ := h i y hx
    unfold f43
    by_cases h44 : y = 44
    · rw [if_pos h44]; exact .inr (.inl rfl)
    · rw [if_neg h44]
      rcases h1 with h1 | h1 | h1 | h1
      · exact .inl ⟨h1, h2 h1⟩
      · exact .inr (.inl h1)
      · exact .inr (.inr h1)
      · exact absurd h1 h44
theorem plain_may {hs : List Int} {z : Nat} (hl : hs.length = z) (h8 : z ≤ 8) (h : plainK hs) : may6 true true 6 hs 3 :=
  ⟨rfl, rfl, ⟨by omega, by omega⟩, by decide, by omega, fun i k hk => by
    rcases h i k hk with h1 | h1 | h1
    · exact ⟨.inl h1.1, fun _ => h1.2⟩
    · exact ⟨.inr (.inl h1), fun h0 => by omega⟩
    · exact ⟨.inr (.inr (.inl h1)), fun h0 => by omega⟩, by omega⟩
theorem built_pkt {hs : List Int} {z : Nat} (hl : hs.length = z) (h1 : 1 ≤ z) (h8 : z ≤ 8) (h : plainK hs) : Pkt (built6 z16' z16' 6 hs 3 [1, 2, 3]) z (kindK hs 6) := by
  have hm := plain_may hl h8 h
  have hx : built6 z16' z16' 6 hs 3 [1, 2, 3] = pk z16' z16' 6 hs 3 [1, 2, 3] := by simp [built6, pk]
  have hlen := built6_length (a := z16') (b := z16') rfl rfl 6 hs (n := 3) (l := [1, 2, 3]) rfl
  have hs3 : num2 (built6 z16' z16' 6 hs 3 [1, 2, 3]) 4 = 8 * z + 3 := by rw [hx, pk_size (a := z16') (b := z16') 6 hs 3 [1, 2, 3] (by omega), hl]
  have h45 : num2 (built6 z16' z16' 6 hs 3 [1, 2, 3]) 4 = bat (built6 z16' z16' 6 hs 3 [1, 2, 3]) 4 * 256 + bat (built6 z16' z16' 6 hs 3 [1, 2, 3]) 5 := num2_bat (by omega)
  refine ⟨by omega, h1, h8, by rw [hx]; rfl, by omega, ?_, fun i hi => ?_, fun i hi => ?_, ?_⟩
  · rw [hx, pk_kind, ← kindK_first]
    exact ub_in (kindK_in hm (Nat.zero_le _))
  · obtain ⟨n1, n2, n3⟩ := pk_next (a := z16') (b := z16') rfl rfl 6 hs 3 [1, 2, 3] (kindK_get (proto := 6) (i := i + 1) (by omega))
    rw [← hx] at n1 n2 n3
    have h23 : num2 (built6 z16' z16' 6 hs 3 [1, 2, 3]) (40 + 8 * i + 2) = bat (built6 z16' z16' 6 hs 3 [1, 2, 3]) (40 + 8 * i + 2) * 256 + bat (built6 z16' z16' 6 hs 3 [1, 2, 3]) (40 + 8 * i + 2 + 1) := num2_bat (by omega)
    have e3 : 40 + 8 * i + 2 + 1 = 40 + 8 * i + 3 := rfl
    rw [e3] at h23
    exact ⟨by rw [n1]; exact ub_in (kindK_in hm (by omega)), n2, by omega, by omega⟩
  · exact h i _ (kindK_lt (by omega))
  · rw [← hl, kindK_last]

theorem own_set8 {w w0 : World} {base n : Nat} {e : TypeId} {g cap : Nat} {l : List UInt8} (o : w.ownsRow base e 1 (.slice (some ⟨g, 0, none⟩) n cap) n (bv l)) (hb : Below base w0 w) (j : Nat) (u : Value) (x : UInt8) (hu : u = .int .u8 x.toNat) :
    (w.setCell ⟨g, j, none⟩ u).ownsRow base e 1 (.slice (some ⟨g, 0, none⟩) n cap) n (bv (l.set j x)) ∧ Below base w0 (w.setCell ⟨g, j, none⟩ u) := by
  subst hu
  have hg : base ≤ g := (o.lt g rfl).1
  have o1 := (o.stored j (.int .u8 x.toNat)).1
  rw [bv_set] at o1
  exact ⟨o1, hb.setCell (p := ⟨g, j, none⟩) hg _⟩
theorem own_at8 {w : World} {base n : Nat} {e : TypeId} {g cap : Nat} {l : List UInt8} (o : w.ownsRow base e 1 (.slice (some ⟨g, 0, none⟩) n cap) n (bv l)) {j : Nat} (hj : j < n) : (∃ p : UInt8, l[j]? = some p ∧ w.cell? ⟨g, j, none⟩ = some (.int .u8 p.toNat)) ∧ w.frozen? ⟨g, j, none⟩ = false := by
  have hl : l.length = n := by have := o.1; rw [bv_length] at this; omega
  have hp : l[j]? = some (l[j]'(by omega)) := List.getElem?_eq_getElem (by omega)
  exact ⟨⟨_, hp, (o.cellAt j (by omega)).trans (bv_at hp)⟩, o.frozenAt j⟩
theorem parse_told {A : Option Addr} {n c : Nat} {l : List UInt8} {w : World} {f : Fl} (hb : Bs w A n c l) (h47 : n ≤ 140737488350000) (hf : (ip6v l n).2 = f) : Calls Tryd.prog 7 #[.slice A n c] w fun e w' => ∃ v h, e = .returned (.tuple #[.agg (hdv h), v]) ∧ h.ok ∧ Tells w' v f ∧ Below w.heap.size w w' := by
  refine (parse_ip6 hb h47).mono ?_
  rintro e w' ⟨v, rfl, t, b⟩
  rw [hf] at t
  exact ⟨v, _, rfl, ip6v_ok hb.len, t, b⟩

set_option maxHeartbeats 16000000 in
theorem ip6Heads {B : Option Addr} {m d : Nat} {zs : List Int} {w : World} (hz : Gs w B m d (zv zs)) (at0 part0 long0 : Int) (hg : Handle w) :
    Calls Tryd.prog 4 #[.slice B m d, .int .i64 at0, .int .i64 part0, .int .i64 long0] w fun e w' => e = .returned (.bool true) ∧ Below w.heap.size w w' := by
  have hm2 := Nat.le_trans hz.cap hz.max
  unfold maxLen at hm2
  have HG := Lib.hid hg
  have hkl := kindsv_length zs
  have hkm := fixed_plain (kindsv_may zs)
  have k1 := kinds_any hz
  clear hg hz
  generalize kindsv zs = ks at hkl hkm k1
  obtain ⟨z0, hz0⟩ : ∃ z, ks.length = z := ⟨_, rfl⟩
  rw [hz0] at hkl k1
  have hz8 : z0 ≤ 8 := by omega
  have K1 := Lib.hid k1
  have HK := Lib.hid (And.intro hz0 hkm)
  clear hkl hkm k1 hz0
  go_enter Tryd.func4, Tryd.ntmps4
  go_wp2_with fail
  refine K1.out.mono ?_
  rintro e1 w4 ⟨A4, c4, rfl, q4, o4, b4⟩
  have hc4 := Nat.le_trans q4.cap q4.max
  unfold maxLen at hc4
  have H4 := Lib.hid (And.intro o4 b4)
  clear q4 o4 b4
  go_upto_block 0 with fail
  go_cut [9] (fun s wx => s = .slice A4 z0 c4 ∧ wx.ownsRow w.heap.size 3 1 (.slice A4 z0 c4) z0 (zv (ks.map f43)) ∧ Below w.heap.size w wx)
  case first =>
    rcases Nat.eq_zero_or_pos z0 with rfl | hpos
    · have hks : ks = [] := List.eq_nil_of_length_eq_zero HK.out.1
      have H5 := Lib.hid (show w4.ownsRow w.heap.size 3 1 (.slice A4 0 c4) 0 (zv (ks.map f43)) ∧ Below w.heap.size w w4 from ⟨by rw [hks]; have := H4.out.1; rw [hks] at this; exact this, H4.out.2⟩)
      clear hks
      go_wp2_with fail
      go_loop [34] (fun i => i = .int .i64 0) (fun _ => 0)
      case atStart => rfl
      case round =>
        obtain rfl := hrel
        go_wp2_with fail
        go_meet
        exact ⟨rfl, H5.out.1, H5.out.2⟩
    · obtain ⟨g, cap, e', _, _⟩ := H4.out.1.form hpos
      cases e'
      go_wp2_with fail
      go_loopw [34] (fun i wr => ∃ j : Nat, j ≤ z0 ∧ i = .int .i64 j ∧ wr.ownsRow w.heap.size 3 1 (.slice (some ⟨g, 0, none⟩) z0 c4) z0 (zv (fixed ks j)) ∧ Below w.heap.size w wr) (fun i _ => z0 - (intOf i).toNat)
      case atStart => exact ⟨0, Nat.zero_le _, rfl, by simpa [fixed] using H4.out.1, H4.out.2⟩
      case round =>
        obtain ⟨j, hj, rfl, ho, hb⟩ := hrel
        by_cases hlt : j < z0
        · obtain ⟨k, hk⟩ : ∃ k, ks[j]? = some k := ⟨ks[j]'(by rw [HK.out.1]; exact hlt), List.getElem?_eq_getElem _⟩
          have hcx := (ho.cellAt j (by omega)).trans (zv_at (fixed_at hk))
          have hfx := ho.frozenAt j
          have hg0 : w.heap.size ≤ g := (ho.lt g rfl).1
          by_cases h44 : k = 44
          · subst h44
            have o1 := (ho.stored j (.int .i64 43)).1
            rw [zv_set, show (43 : Int) = f43 44 from rfl, fixed_step hk] at o1
            have H6 := Lib.hid (And.intro o1 (hb.setCell (p := ⟨g, j, none⟩) hg0 (.int .i64 43)))
            clear ho hb o1 hk
            go_wp2_with fail
            go_roundw
            case rel => exact ⟨j + 1, hlt, by go_num, H6.out⟩
            case measure => simp [intOf]; omega
          · have hkb : (k == 44) = false := by simpa using h44
            rw [fixed_same hk h44] at ho
            have H6 := Lib.hid (And.intro ho hb)
            clear ho hb hk
            go_wp2_with fail
            go_roundw
            case rel => exact ⟨j + 1, hlt, by go_num, H6.out⟩
            case measure => simp [intOf]; omega
        · obtain rfl : j = z0 := by omega
          rw [← HK.out.1, fixed_all, HK.out.1] at ho
          have H6 := Lib.hid (And.intro ho hb)
          clear ho hb
          go_wp2_with fail
          go_meet
          exact ⟨rfl, H6.out.1, H6.out.2⟩
  case rest =>
  obtain ⟨rfl, o5, b5⟩ := hcut
  have H5 := Lib.hid (And.intro o5 b5)
  clear o5 b5
  go_upto_if 48 with fail
  go_cut [9] (fun s wx => ∃ A z c hs, s = .slice A z c ∧ Gs wx A z c (zv hs) ∧ (1 ≤ z ∧ z ≤ 8 ∧ hs.length = z) ∧ plainK hs ∧ Below w.heap.size w wx)
  case first =>
    rcases Nat.eq_zero_or_pos z0 with rfl | hpos
    · go_wp2_with fail
      go_meet
      exact ⟨_, 1, 1, [60], rfl, Gs.lit wc (zv [60]) 1 rfl (by unfold maxLen; omega) #[.int .i64 60] rfl 3, ⟨by omega, by omega, rfl⟩, fun i k h => by
        match i, h with
        | 0, h => obtain rfl := Option.some.inj h.symm; exact .inr (.inr rfl)
        | i + 1, h => simp at h, H5.out.2.alloc H5.out.2.size _⟩
    · have hzb : (((z0 : Nat) : Int) == 0) = false := by simp; omega
      obtain ⟨A5, c5, e', hG⟩ := Gs.of_own H5.out.1
      cases e'
      have H6 := Lib.hid hG
      clear hG
      go_wp2_with fail
      go_meet
      exact ⟨_, z0, _, _, rfl, H6.out, ⟨hpos, hz8, by rw [List.length_map]; exact HK.out.1⟩, HK.out.2, H5.out.2⟩
  case rest =>
  obtain ⟨A6, z, c6, hs, rfl, q6, ⟨hz1, hz8', hzl⟩, hp6, b6⟩ := hcut
  have hc6 := Nat.le_trans q6.cap q6.max
  unfold maxLen at hc6
  have H6 := Lib.hid (And.intro q6 b6)
  have HPK := Lib.hid (built_pkt hzl hz1 hz8' hp6)
  have HMAY := Lib.hid (plain_may hzl hz8' hp6)
  clear q6 b6 hp6
  go_wp2_with fail
  have hz7 := H6.out.1.later ((Below.refl wc.heap.size wc).alloc (Nat.le_refl _) (.cells #[.int .u8 1, .int .u8 2, .int .u8 3] 5)) (Nat.le_refl _)
  have B7 := H6.out.2.alloc H6.out.2.size (.cells #[.int .u8 1, .int .u8 2, .int .u8 3] 5)
  have k2 := build_ip6 true true (sb := z16') (db := z16') rfl rfl 6 hz7 (Bs.lit wc [1, 2, 3] 3 rfl (by unfold maxLen; omega) #[.int .u8 1, .int .u8 2, .int .u8 3] rfl 5)
  unfold BldR at k2
  rw [(build_yes6 HMAY.out z16' z16' [1, 2, 3]).1, (build_yes6 HMAY.out [] [] []).2] at k2
  refine k2.mono ?_
  rintro e2 w8 ⟨A8, n8, c8, v8, rfl, q8, t8, b8⟩
  obtain rfl := Tells.none' t8 rfl
  obtain rfl : 43 + 8 * z = n8 := by rw [← q8.len]; exact HPK.out.len.symm
  generalize built6 z16' z16' 6 hs 3 [1, 2, 3] = X at q8 HPK
  generalize kindK hs 6 = KK at HPK
  have hc8 := q8.cap
  have hm8 := q8.max
  unfold maxLen at hm8
  obtain ⟨gx, ox, rfl, _⟩ := q8.here (by omega)
  have H8 := Lib.hid (And.intro q8 (B7.trans (b8.mono B7.size)))
  clear k2 q8 t8 b8 hz7 B7
  go_wp2_with fail
  refine (awake07 _).mono ?_
  rintro e3 w9 ⟨rfl, b9⟩
  have H9 := Lib.hid (And.intro (H8.out.1.later b9 (Nat.le_refl _)) (H8.out.2.trans (b9.mono H8.out.2.size)))
  clear b9
  obtain ⟨q1, q2⟩ := num_mod7 at0 (z : Int) (by omega) (by omega)
  have hzu : ¬ (z : Int) = 0 := by omega
  go_upto_region 15 with fail
  generalize wrap64 ((IntKind.u64.wrap at0).tmod (z : Int)) = x1 at q1 q2 ⊢
  obtain ⟨a, rfl⟩ := Int.eq_ofNat_of_zero_le q1
  have ha : a < z := by omega
  clear q1 q2
  have P1 := Lib.hid ((HPK.out.order ha).trans (congrArg (fun x : Int => (⟨10, x, true⟩ : Fl)) (show ((40 + 8 * a + 8 : Nat) : Int) = 40 + 8 * (a : Int) + 8 by omega)))
  go_wp2_with (at_builtin; refine wpList_append_bs rfl (.const (.slice none 0 0)) (.tmp 74) 22 rfl w9.heap.size 5 info5 Tryd.underlying22 (.slice none 0 0) 0 [] rfl (World.ownsRow_nil _ _ _ _) _ (43 + 8 * z) c8 _ rfl H9.out.1 (by omega) (Nat.le_refl _) ?_; intro v10 w10 o10 g10 n10 m10; have b10 : Below w9.heap.size w9 w10 := (Below.refl _ w9).grown g10 (Nat.le_refl _) (fun x hx => by cases hx); replace o10 := owns_n (n' := 43 + 8 * z) (by omega) o10; rw [List.nil_append] at o10; obtain ⟨gy, cy, rfl, hy1, hy2⟩ := o10.form (by omega); obtain ⟨⟨py, _, hcy⟩, hfy⟩ := own_at8 o10 (j := 40 + 8 * a) (by omega); have H10 := Lib.hid (And.intro o10 b10); clear o10 g10 n10 m10 b10)
  obtain ⟨s1, s2⟩ := own_set8 H10.out.1 H10.out.2 (40 + 8 * a) (.int .u8 0) 0 rfl
  obtain ⟨A10, c10, e10, hB10⟩ := Bs.of_own s1
  cases e10
  have S10 := Lib.hid s2
  refine (parse_told hB10 (by omega) P1.out).mono ?_
  rintro e4 w11 ⟨v11, h11, rfl, k11, t11, b11⟩
  have b911 := S10.out.trans (b11.mono S10.out.size)
  have H11 := Lib.hid (And.intro (H9.out.1.later b911 (Nat.le_refl _)) (And.intro t11 (H9.out.2.trans (b911.mono H9.out.2.size))))
  clear s1 s2 hB10 t11 b11 b911 hcy hfy
  go_wp2_with (first
    | (refine wpList_alloc_hd rfl rfl ?_; intro w12 a12 b12 z12; have H12 := Lib.hid (And.intro a12 b12); clear a12 b12 z12)
    | (refine wpList_store_hd rfl (.tmp 15) (.tmp 82) rfl h11 rfl rfl k11 H12.out.1 ?_; intro w13 a13 o13 z13 b13; have bb := b13 _ _ (Nat.le_refl _) H12.out.2; have H13 := Lib.hid (And.intro (H11.out.1.later bb (Nat.le_refl _)) (And.intro (H11.out.2.1.later bb (Nat.le_refl _)) (H11.out.2.2.trans (bb.mono H11.out.2.2.size)))); clear a13 o13 z13 b13 bb))
  refine (help_at 10 (40 + 8 * (a : Int) + 8) _).mono ?_
  rintro e5 w14 ⟨rfl, b14⟩
  have H14 := Lib.hid (And.intro (H13.out.1.later b14 (Nat.le_refl _)) (And.intro (H13.out.2.1.later b14 (Nat.le_refl _)) (H13.out.2.2.trans (b14.mono H13.out.2.2.size))))
  clear b14
  obtain ⟨p1, p2⟩ := num_mod7 long0 200 (by omega) (by omega)
  go_wp2_with (first
    | (refine wpList_alloc_fl rfl rfl ?_; intro w15 a15 b15 z15; have H15 := Lib.hid (And.intro a15 b15); clear a15 b15 z15)
    | (refine wpList_store_fl rfl (.tmp 18) (.tmp 91) rfl 10 (40 + 8 * (a : Int) + 8) true rfl rfl H15.out.1 ?_; intro w16 a16 o16 z16 b16; have bb := b16 _ _ (Nat.le_refl _) H15.out.2; have H16 := Lib.hid (And.intro (H14.out.1.later bb (Nat.le_refl _)) (And.intro (H14.out.2.1.later bb (Nat.le_refl _)) (And.intro a16 (H14.out.2.2.trans (bb.mono H14.out.2.2.size))))); clear a16 o16 z16 b16 bb)
    | (at_builtin; refine wpList_append_bs rfl (.const (.slice none 0 0)) (.tmp 92) 22 rfl w16.heap.size 5 info5 Tryd.underlying22 (.slice none 0 0) 0 [] rfl (World.ownsRow_nil _ _ _ _) _ (43 + 8 * z) c8 _ rfl H16.out.1 (by omega) (Nat.le_refl _) ?_; intro v17 w17 o17 g17 n17 m17; have b17 : Below w16.heap.size w16 w17 := (Below.refl _ w16).grown g17 (Nat.le_refl _) (fun x hx => by cases hx); replace o17 := owns_n (n' := 43 + 8 * z) (by omega) o17; rw [List.nil_append] at o17; obtain ⟨gz, cz, rfl, hy3, hy4⟩ := o17.form (by omega); obtain ⟨⟨pz, _, hcz⟩, hfz⟩ := own_at8 o17 (j := 40 + 8 * a + 1) (by omega); have H17 := Lib.hid (And.intro o17 b17); clear o17 g17 n17 m17 b17))
  generalize wrap64 ((IntKind.u64.wrap long0).tmod 200) = y1 at p1 p2 ⊢
  obtain ⟨lg, rfl⟩ := Int.eq_ofNat_of_zero_le p1
  have hxv : (UInt8.ofNat (1 + z + lg)).toNat = 1 + z + lg := by simp only [UInt8.toNat_ofNat']; omega
  have P2 := Lib.hid ((HPK.out.long ha (UInt8.ofNat (1 + z + lg)) (by omega)).trans (congrArg (fun x : Int => (⟨3, x, true⟩ : Fl)) (show ((40 + 8 * a : Nat) : Int) = 40 + 8 * (a : Int) by omega)))
  obtain ⟨s3, s4⟩ := own_set8 H17.out.1 H17.out.2 (40 + 8 * a + 1) (.int .u8 (1 + (z : Int) + (lg : Int))) (UInt8.ofNat (1 + z + lg)) (by rw [hxv]; exact congrArg (Value.int .u8) (by omega))
  obtain ⟨A17, c17, e17, hB17⟩ := Bs.of_own s3
  cases e17
  have S17 := Lib.hid s4
  refine (parse_told hB17 (by omega) P2.out).mono ?_
  rintro e6 w18 ⟨v18, h18, rfl, k18, t18, b18⟩
  have b1618 := S17.out.trans (b18.mono S17.out.size)
  have H18 := Lib.hid (And.intro (H16.out.1.later b1618 (Nat.le_refl _)) (And.intro (H16.out.2.1.later b1618 (Nat.le_refl _)) (And.intro (H16.out.2.2.1.later b1618 (Nat.le_refl _)) (And.intro t18 (H16.out.2.2.2.trans (b1618.mono H16.out.2.2.2.size))))))
  clear s3 s4 hB17 t18 b18 b1618 hcz hfz p1 p2 hxv
  go_upto_if 115 with (first
    | (refine wpList_alloc_hd rfl rfl ?_; intro w19 a19 b19 z19; have H19 := Lib.hid (And.intro a19 b19); clear a19 b19 z19)
    | (refine wpList_store_hd rfl (.tmp 20) (.tmp 110) rfl h18 rfl rfl k18 H19.out.1 ?_; intro w20 a20 o20 z20 b20; have bb := b20 _ _ (Nat.le_refl _) H19.out.2; have H20 := Lib.hid (And.intro (H18.out.1.later bb (Nat.le_refl _)) (And.intro (H18.out.2.1.later bb (Nat.le_refl _)) (And.intro (H18.out.2.2.1.later bb (Nat.le_refl _)) (And.intro (H18.out.2.2.2.1.later bb (Nat.le_refl _)) (H18.out.2.2.2.2.trans (bb.mono H18.out.2.2.2.2.size)))))); clear a20 o20 z20 b20 bb)
    | (at_builtin; refine wpList_append_bs rfl (.const (.slice none 0 0)) (.tmp 112) 22 rfl w20.heap.size 5 info5 Tryd.underlying22 (.slice none 0 0) 0 [] rfl (World.ownsRow_nil _ _ _ _) _ (43 + 8 * z) c8 _ rfl H20.out.1 (by omega) (Nat.le_refl _) ?_; intro v21 w21 o21 g21 n21 m21; have b21 : Below w20.heap.size w20 w21 := (Below.refl _ w20).grown g21 (Nat.le_refl _) (fun x hx => by cases hx); replace o21 := owns_n (n' := 43 + 8 * z) (by omega) o21; rw [List.nil_append] at o21; obtain ⟨gw, cw, rfl, hy5, hy6⟩ := o21.form (by omega); have H21 := Lib.hid (And.intro o21 b21); clear o21 g21 n21 m21 b21))
  go_cut [22] (fun s wx => ∃ l1 : List UInt8, (l1 = if a = 0 then X.set 6 44 else X.set (32 + 8 * a) 44) ∧ s = .slice (some ⟨gw, 0, none⟩) (43 + 8 * z) cw ∧ wx.ownsRow w20.heap.size 5 1 (.slice (some ⟨gw, 0, none⟩) (43 + 8 * z) cw) (43 + 8 * z) (bv l1) ∧ Below w20.heap.size w20 wx)
  case first =>
    by_cases ha0 : a = 0
    · have hab : ((a : Int) == 0) = true := by simp; omega
      obtain ⟨⟨px, _, hcw⟩, hfw⟩ := own_at8 H21.out.1 (j := 6) (by omega)
      have HS := Lib.hid (own_set8 H21.out.1 H21.out.2 6 (.int .u8 44) 44 rfl)
      have HA0 := Lib.hid ha0
      clear ha0
      go_wp2_with fail
      go_meet
      exact ⟨_, by rw [if_pos HA0.out], rfl, HS.out.1, HS.out.2⟩
    · have hab : ((a : Int) == 0) = false := by simp; omega
      obtain ⟨⟨px, _, hcw⟩, hfw⟩ := own_at8 H21.out.1 (j := 32 + 8 * a) (by omega)
      have HS := Lib.hid (own_set8 H21.out.1 H21.out.2 (32 + 8 * a) (.int .u8 44) 44 rfl)
      have HA0 := Lib.hid ha0
      have hidx : (40 + 8 * (a : Int) - 8).toNat = 32 + 8 * a := by omega
      go_wp2_with fail
      go_meet
      exact ⟨_, by rw [if_neg HA0.out], rfl, HS.out.1, HS.out.2⟩
  case rest =>
  obtain ⟨l1, hl1, rfl, o22, b22⟩ := hcut
  have HL1 := Lib.hid hl1
  have H22 := Lib.hid (And.intro o22 b22)
  clear hl1 o22 b22
  obtain ⟨r1, r2⟩ := num_mod7 part0 65536 (by omega) (by omega)
  go_upto_region 28 with fail
  generalize wrap64 ((IntKind.u64.wrap part0).tmod 65536) = y2 at r1 r2 ⊢
  obtain ⟨pt, rfl⟩ := Int.eq_ofNat_of_zero_le r1
  have hpt : pt < 65536 := by omega
  clear r1 r2
  obtain ⟨⟨p1, _, hc1⟩, hf1⟩ := own_at8 H22.out.1 (j := 40 + 8 * a + 2) (by omega)
  obtain ⟨⟨p2, _, hc2⟩, hf2⟩ := own_at8 H22.out.1 (j := 40 + 8 * a + 3) (by omega)
  go_wp2_with fail
  have hu : (UInt8.ofNat (pt / 256)).toNat = pt / 256 := by simp only [UInt8.toNat_ofNat']; omega
  have hv : (UInt8.ofNat (pt % 256)).toNat = pt % 256 := by simp only [UInt8.toNat_ofNat']; omega
  obtain ⟨s5, s6⟩ := own_set8 H22.out.1 H22.out.2 (40 + 8 * a + 2) (.int .u8 ((pt : Int) / 256)) (UInt8.ofNat (pt / 256)) (by rw [hu]; rfl)
  obtain ⟨s7, s8⟩ := own_set8 s5 s6 (40 + 8 * a + 3) (.int .u8 ((pt : Int) % 256)) (UInt8.ofNat (pt % 256)) (by rw [hv]; rfl)
  have hp3 := HPK.out.part ha l1 HL1.out (UInt8.ofNat (pt / 256)) (UInt8.ofNat (pt % 256))
  rw [hu, hv, show pt / 256 * 256 + pt % 256 = pt by omega, show ((40 + 8 * a : Nat) : Int) = 40 + 8 * (a : Int) by omega] at hp3
  obtain ⟨fr, hfr⟩ : ∃ fr : Fl, (if bits .and .i64 (pt : Int) 65529 = 0 then (⟨0, 0, false⟩ : Fl) else ⟨9, 40 + 8 * (a : Int), true⟩) = fr := ⟨_, rfl⟩
  rw [hfr] at hp3
  have HFR := Lib.hid hfr
  obtain ⟨A22, c22, e22, hB22⟩ := Bs.of_own s7
  cases e22
  have S22 := Lib.hid s8
  have P3 := Lib.hid hp3
  clear hp3 hfr hu hv
  refine (parse_told hB22 (by omega) P3.out).mono ?_
  rintro e7 w23 ⟨v23, h23, rfl, k23, t23, b23⟩
  have b2023 := S22.out.trans (b23.mono S22.out.size)
  have H23 := Lib.hid (And.intro (H20.out.1.later b2023 (Nat.le_refl _)) (And.intro (H20.out.2.1.later b2023 (Nat.le_refl _)) (And.intro (H20.out.2.2.1.later b2023 (Nat.le_refl _)) (And.intro (H20.out.2.2.2.1.later b2023 (Nat.le_refl _)) (And.intro t23 (H20.out.2.2.2.2.trans (b2023.mono H20.out.2.2.2.2.size)))))))
  clear s5 s6 s7 s8 hB22 t23 b23 b2023 hc1 hc2 hf1 hf2
  go_upto_region 30 with (first
    | (refine wpList_alloc_hd rfl rfl ?_; intro w24 a24 b24 z24; have H24 := Lib.hid (And.intro a24 b24); clear a24 b24 z24)
    | (refine wpList_store_hd rfl (.tmp 23) (.tmp 142) rfl h23 rfl rfl k23 H24.out.1 ?_; intro w25 a25 o25 z25 b25; have bb := b25 _ _ (Nat.le_refl _) H24.out.2; have H25 := Lib.hid (And.intro (H23.out.1.later bb (Nat.le_refl _)) (And.intro (H23.out.2.1.later bb (Nat.le_refl _)) (And.intro (H23.out.2.2.1.later bb (Nat.le_refl _)) (And.intro (H23.out.2.2.2.1.later bb (Nat.le_refl _)) (And.intro (H23.out.2.2.2.2.1.later bb (Nat.le_refl _)) (H23.out.2.2.2.2.2.trans (bb.mono H23.out.2.2.2.2.2.size))))))); clear a25 o25 z25 b25 bb))
  go_cut [25] (fun s wx => ∃ bx : Bool, (bits .and .i64 (pt : Int) 65529 = 0 → bx = true) ∧ s = .bool bx ∧ Below w25.heap.size w25 wx)
  case first =>
    by_cases hf : bits .and .i64 (pt : Int) 65529 = 0
    · obtain rfl : v23 = .nilIface := Tells.none' H25.out.2.2.2.2.1 (by rw [← HFR.out, if_pos hf])
      clear hf
      go_wp2_with fail
      go_meet
      exact ⟨true, fun _ => rfl, rfl, Below.refl _ _⟩
    · obtain ⟨T, x, rfl⟩ : ∃ T x, v23 = .iface T x := Tells.held' H25.out.2.2.2.2.1 (by rw [← HFR.out, if_neg hf]; show (9 : Int) ≠ 0; decide)
      have HF := Lib.hid hf
      clear hf
      go_wp2_with fail
      go_meet
      exact ⟨false, fun h => absurd h HF.out, rfl, Below.refl _ _⟩
  case rest =>
  obtain ⟨bx, hbx, rfl, b26⟩ := hcut
  have HBX := Lib.hid hbx
  have H26 := Lib.hid (And.intro (H25.out.1.later b26 (Nat.le_refl _)) (And.intro (H25.out.2.1.later b26 (Nat.le_refl _)) (And.intro (H25.out.2.2.1.later b26 (Nat.le_refl _)) (And.intro (H25.out.2.2.2.1.later b26 (Nat.le_refl _)) (And.intro (H25.out.2.2.2.2.1.later b26 (Nat.le_refl _)) (H25.out.2.2.2.2.2.trans (b26.mono H25.out.2.2.2.2.2.size)))))))
  clear hbx b26
  go_upto_if 148 with fail
  go_cut [25] (fun s wx => s = .bool true ∧ Below wc.heap.size wc wx)
  case first =>
    by_cases hf : bits .and .i64 (pt : Int) 65529 = 0
    · obtain rfl := HBX.out hf
      go_wp2_with fail
      go_meet
      exact ⟨rfl, Below.refl _ _⟩
    · have t26 := H26.out.2.2.2.2.1
      rw [← HFR.out, if_neg hf] at t26
      have T26 := Lib.hid t26
      clear t26
      go_wp2_with fail
      refine (help_at 9 (40 + 8 * (a : Int)) _).mono ?_
      rintro e8 w27 ⟨rfl, b27⟩
      have H27 := Lib.hid b27
      clear b27
      go_wp2_with fail
      refine (is_told3 (T26.out.later H27.out (Nat.le_refl _)) (Handle.later (H26.out.2.2.2.2.2.trans (H27.out.mono H26.out.2.2.2.2.2.size)) (Nat.le_refl _) HG.out)).mono ?_
      rintro e9 w28 ⟨rfl, b28⟩
      have H28 := Lib.hid (H27.out.trans (b28.mono H27.out.size))
      clear b28
      go_wp2_with fail
      go_meet
      exact ⟨rfl, H28.out⟩
  case rest =>
  obtain ⟨rfl, b29⟩ := hcut
  have H29 := Lib.hid (And.intro (H26.out.1.later b29 (Nat.le_refl _)) (And.intro (H26.out.2.1.later b29 (Nat.le_refl _)) (And.intro (H26.out.2.2.1.later b29 (Nat.le_refl _)) (And.intro (H26.out.2.2.2.1.later b29 (Nat.le_refl _)) (H26.out.2.2.2.2.2.trans (b29.mono H26.out.2.2.2.2.2.size))))))
  clear b29
  have hx40 := H29.out.1.head' (k := 40) (by omega)
  obtain ⟨D0, hD0⟩ : ∃ D0 : List UInt8, X.take 40 ++ List.replicate 80 0 = D0 := ⟨_, rfl⟩
  have HX40 := Lib.hid (And.intro hx40 hD0)
  clear hx40 hD0
  have s40 : (40 : Int) ≤ (c8 : Int) := by omega
  go_wp2_with (first
    | (at_builtin; refine wpList_append_bs rfl (.const (.slice none 0 0)) (.tmp 154) 22 rfl wc.heap.size 5 info5 Tryd.underlying22 (.slice none 0 0) 0 [] rfl (World.ownsRow_nil _ _ _ _) _ 40 c8 _ rfl HX40.out.1 (by omega) (Nat.le_refl _) ?_; intro v30 w30 o30 g30 n30 m30; have b30 : Below wc.heap.size wc w30 := (Below.refl _ wc).grown g30 (Nat.le_refl _) (fun x hx => by cases hx); have H30 := Lib.hid (And.intro (owns_n (n' := 40) (by omega) o30) b30); clear o30 g30 n30 m30 b30)
    | (at_builtin; obtain ⟨v31, w31, hr31, o31, g31⟩ := run_append_zeros8 (P := Tryd.prog) wc.heap.size 22 3 22 5 .i64 .i64 Tryd.underlying22 Tryd.underlying3 info5 H30.out.1 (by omega) 80 (by omega) (by omega) H30.out.2.size; refine Lib.wpList_append_run _ rfl (.tmp 155) (.const (.int .i64 80)) 22 3 rfl _ _ rfl rfl _ _ hr31 ?_; have b31 : Below wc.heap.size wc w31 := H30.out.2.grown g31 H30.out.2.size (fun x hx => (H30.out.1.lt x hx).1); rw [List.nil_append, HX40.out.2] at o31; obtain ⟨gd, cd, rfl, hy7, hy8⟩ := o31.form (by omega); obtain ⟨⟨p4, _, hc4'⟩, hf4⟩ := own_at8 o31 (j := 4) (by omega); obtain ⟨⟨p5, _, hc5'⟩, hf5⟩ := own_at8 o31 (j := 5) (by omega); obtain ⟨⟨p6, _, hc6'⟩, hf6⟩ := own_at8 o31 (j := 6) (by omega); have H31 := Lib.hid (And.intro o31 b31); clear o31 g31 b31 hr31))
  obtain ⟨s9, s10⟩ := own_set8 H31.out.1 H31.out.2 4 (.int .u8 0) 0 rfl
  obtain ⟨s11, s12⟩ := own_set8 s9 s10 5 (.int .u8 80) 80 rfl
  obtain ⟨s13, s14⟩ := own_set8 s11 s12 6 (.int .u8 60) 60 rfl
  have P4 := Lib.hid (deep_built HPK.out HX40.out.2)
  have hgd : wc.heap.size ≤ gd := (H31.out.1.lt gd rfl).1
  obtain ⟨D1, hD1⟩ : ∃ D1 : List UInt8, ((D0.set 4 0).set 5 80).set 6 60 = D1 := ⟨_, rfl⟩
  rw [hD1] at s13 P4
  have H32 := Lib.hid (And.intro s13 s14)
  clear s9 s10 s11 s12 s13 s14 hc4' hc5' hc6' hf4 hf5 hf6 hD1
  go_loopw [27] (fun i wr => ∃ j : Nat, j ≤ 10 ∧ i = .int .i64 j ∧ wr.ownsRow wc.heap.size 5 1 (.slice (some ⟨gd, 0, none⟩) 120 cd) 120 (bv (tenv D1 j)) ∧ Below wc.heap.size wc wr) (fun i _ => 10 - (intOf i).toNat)
  case atStart => exact ⟨0, Nat.zero_le _, rfl, H32.out.1, H32.out.2⟩
  case round =>
    obtain ⟨j, hj, rfl, ho, hb⟩ := hrel
    by_cases hlt : j < 10
    · obtain ⟨⟨px, _, hcd⟩, hfd⟩ := own_at8 ho (j := 40 + 8 * j) (by omega)
      have H33 := Lib.hid (own_set8 ho hb (40 + 8 * j) (.int .u8 60) 60 rfl)
      clear ho hb
      go_wp2_with fail
      go_roundw
      case rel => exact ⟨j + 1, hlt, by go_num, H33.out⟩
      case measure => simp [intOf]; omega
    · obtain rfl : j = 10 := by omega
      obtain ⟨A33, c33, e33, hB33⟩ := Bs.of_own ho
      cases e33
      have H33 := Lib.hid (And.intro hB33 hb)
      clear ho hb hB33
      go_wp2_with fail
      refine (parse_told H33.out.1 (by omega) P4.out).mono ?_
      rintro e10 w34 ⟨v34, h34, rfl, k34, t34, b34⟩
      have b2934 := H33.out.2.trans (b34.mono H33.out.2.size)
      have H34 := Lib.hid (And.intro (H29.out.2.1.later b2934 (Nat.le_refl _)) (And.intro (H29.out.2.2.1.later b2934 (Nat.le_refl _)) (And.intro (H29.out.2.2.2.1.later b2934 (Nat.le_refl _)) (And.intro t34 (H29.out.2.2.2.2.trans (b2934.mono H29.out.2.2.2.2.size))))))
      clear t34 b34 b2934
      go_wp2_with (first
        | (refine wpList_alloc_hd rfl rfl ?_; intro w35 a35 b35 z35; have H35 := Lib.hid (And.intro a35 b35); clear a35 b35 z35)
        | (refine wpList_store_hd rfl (.tmp 28) (.tmp 175) rfl h34 rfl rfl k34 H35.out.1 ?_; intro w36 a36 o36 z36 b36; have bb := b36 _ _ (Nat.le_refl _) H35.out.2; have H36 := Lib.hid (And.intro (H34.out.1.later bb (Nat.le_refl _)) (And.intro (H34.out.2.1.later bb (Nat.le_refl _)) (And.intro (H34.out.2.2.1.later bb (Nat.le_refl _)) (And.intro (H34.out.2.2.2.1.later bb (Nat.le_refl _)) (H34.out.2.2.2.2.trans (bb.mono H34.out.2.2.2.2.size)))))); clear a36 o36 z36 b36 bb)
        | (refine wpList_load_fl rfl (.tmp 18) rfl rfl H36.out.2.1 ?_))
      refine (is_told3 H36.out.1 (Handle.later H36.out.2.2.2.2 (Nat.le_refl _) HG.out)).mono ?_
      rintro e11 w37 ⟨rfl, b37⟩
      have H37 := Lib.hid (And.intro (H36.out.2.2.1.later b37 (Nat.le_refl _)) (And.intro (H36.out.2.2.2.1.later b37 (Nat.le_refl _)) (H36.out.2.2.2.2.trans (b37.mono H36.out.2.2.2.2.size))))
      clear b37
      go_wp2_with fail
      refine (help_at 3 (40 + 8 * (a : Int)) _).mono ?_
      rintro e12 w38 ⟨rfl, b38⟩
      have H38 := Lib.hid (And.intro (H37.out.1.later b38 (Nat.le_refl _)) (And.intro (H37.out.2.1.later b38 (Nat.le_refl _)) (H37.out.2.2.trans (b38.mono H37.out.2.2.size))))
      clear b38
      go_wp2_with fail
      refine (is_told3 H38.out.1 (Handle.later H38.out.2.2 (Nat.le_refl _) HG.out)).mono ?_
      rintro e13 w39 ⟨rfl, b39⟩
      have H39 := Lib.hid (And.intro (H38.out.2.1.later b39 (Nat.le_refl _)) (H38.out.2.2.trans (b39.mono H38.out.2.2.size)))
      clear b39
      go_wp2_with fail
      refine (help_at 11 104 _).mono ?_
      rintro e14 w40 ⟨rfl, b40⟩
      have H40 := Lib.hid (And.intro (H39.out.1.later b40 (Nat.le_refl _)) (H39.out.2.trans (b40.mono H39.out.2.size)))
      clear b40
      go_wp2_with fail
      refine (is_told3 H40.out.1 (Handle.later H40.out.2 (Nat.le_refl _) HG.out)).mono ?_
      rintro e15 w41 ⟨rfl, b41⟩
      have H41 := Lib.hid (H40.out.2.trans (b41.mono H40.out.2.size))
      clear b41
      go_wp2_with fail
      go_ret
      exact ⟨rfl, H41.out⟩
end Go.Proofs.YtceigepclemdmaaDoor
