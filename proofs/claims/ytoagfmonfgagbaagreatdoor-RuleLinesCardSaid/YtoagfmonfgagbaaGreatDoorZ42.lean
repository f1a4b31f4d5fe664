/-
  
-/
import Derived.Test.YtoagfmonfgagbaaGreatDoorZ41
import Derived.Test.YtoagfmonfgagbaaGreatDoorZ40
import Derived.Test.YtoagfmonfgagbaaGreatDoorZ30
import Derived.Test.YtoagfmonfgagbaaGreatDoorZ12
import Derived.Test.YtoagfmonfgagbaaGreatDoorZ03
import Derived.Test.YtoagfmonfgagbaaGreatDoorZ13
import Derived.Test.YtoagfmonfgagbaaGreatDoorZ27
import Derived.BigQuiet
import Derived.Deep.QuietTactic
namespace Go.Proofs.YtoagfmonfgagbaaGreatDoor
open Go.RowKit
set_option maxRecDepth 100000
theorem Env.max {w : World} (h : Env w) : ∃ m, w.cell? ⟨2, 0, none⟩ = some (.int .i64 m) := h.maxLen
theorem sv_bts {xs ys : List ByteArray} (h : bts xs = bts ys) : xs = ys := by
  induction xs generalizing ys with
  | nil => cases ys with
    | nil => rfl
    | cons _ _ => cases h
  | cons x r ih =>
    cases ys with
    | nil => cases h
    | cons y t =>
      injection h with h1 h2
      rw [ih h2]
      congr 1
      cases x; cases y; simp_all
def mkSs (ls : List (List UInt8)) : List ByteArray := ls.map mkS
theorem bts_mk (ls : List (List UInt8)) : bts (mkSs ls) = ls := by
  unfold bts mkSs
  rw [List.map_map]
  conv => rhs; rw [← List.map_id ls]
  exact List.map_congr_left fun x _ => mkS_data x
theorem mk_bts (xs : List ByteArray) : mkSs (bts xs) = xs := sv_bts (bts_mk _)
theorem labels_any (s : ByteArray) (hs : s.size ≤ 1000000) {w : World} (hE : Env w) : Calls Tryz.prog 144 #[.string s] w fun e w' =>
    ∃ A n c, e = .returned (.slice A n c) ∧ Gs w' A n c (sv (mkSs (labsN s.data.toList))) ∧ Below w.heap.size w w' := by
  by_cases h0 : s.size = 0
  · obtain rfl := str_empty h0
    clear h0
    go_enter Tryz.func144, Tryz.ntmps144
    go_wp2_with fail
    go_ret
    exact ⟨none, 0, 0, rfl, Gs.nil _, Below.refl _ _⟩
  · have e0 : s.toList.isEmpty = false := by
      rw [← decide_eq_emptyBytes]
      exact decide_eq_false (fun h => h0 (by rw [h]; rfl))
    obtain ⟨m, hm⟩ := hE.max
    have K := Tryz.strings_Split s ⟨#[46]⟩ m w (by omega) hm (by decide)
    obtain ⟨h1, h2⟩ := split_all 46 s
    have hl : labsN s.data.toList = spl 46 s.data.toList := by
      unfold labsN
      rw [if_neg]
      intro h
      exact h0 (by rw [Lib.size_eq, h]; rfl)
    have hx : Lib.splitB ⟨#[46]⟩ 0 (Lib.countB s ⟨#[46]⟩) s = mkSs (labsN s.data.toList) := by rw [hl, ← h1, mk_bts]
    have hlen : (Lib.splitB ⟨#[46]⟩ 0 (Lib.countB s ⟨#[46]⟩) s).length = Lib.countB s ⟨#[46]⟩ + 1 := Lib.splitB_all ⟨#[46]⟩ (by decide) 0 _ s rfl
    rw [hx] at K hlen
    generalize Lib.countB s ⟨#[46]⟩ = q at K h2 hlen
    have HK := Lib.hid K
    have HL := Lib.hid hlen
    have HQ := Lib.hid h2
    clear K h1 h2 hl hx hm hlen
    go_enter Tryz.func144, Tryz.ntmps144
    go_wp2_with fail
    refine HK.out.mono ?_
    rintro e w' ⟨rfl, rfl⟩
    have hG := Gs.lit w (sv (mkSs (labsN s.data.toList))) (q + 1) (by unfold sv; rw [List.length_map, HL.out]) (by have := HQ.out; unfold maxLen; omega) ((mkSs (labsN s.data.toList)).map Value.string).toArray (by unfold sv; simp) 9
    have HG := Lib.hid (And.intro hG ((Below.refl _ w).alloc (Nat.le_refl _) (.cells ((mkSs (labsN s.data.toList)).map Value.string).toArray 9)))
    clear hG
    generalize w.alloc (.cells ((mkSs (labsN s.data.toList)).map Value.string).toArray 9) = W at HG ⊢
    go_wp2_with fail
    go_ret
    exact ⟨_, _, _, rfl, HG.out.1, HG.out.2⟩
set_option maxHeartbeats 1000000 in
theorem indexS_any {A : Option Addr} {n c : Nat} {xs : List ByteArray} {w : World} (hb : Gs w A n c (sv xs)) (hx : ∀ x ∈ xs, x.size ≤ 1000000) : Calls Tryz.prog 157 #[.slice A n c, .func (.func 145) #[] #[]] w fun e w' =>
    ∃ r : Int, e = .returned (.int .i64 r) ∧ (0 ≤ r ↔ ∃ x ∈ bts xs, ¬ labOk x) ∧ Below w.heap.size w w' := by
  have hcap := hb.cap
  have hmax := hb.max
  unfold maxLen at hmax
  have hlen : xs.length = n := by have := hb.len; unfold sv at this; rw [List.length_map] at this; exact this
  have HB := Lib.hid hb
  clear hb
  go_enter Tryz.func157, Tryz.ntmps157
  go_wp2_with fail
  go_loopw [8] (fun i wr => ∃ k : Nat, k ≤ n ∧ i = .int .i64 k ∧ (∀ (j : Nat) (x : ByteArray), j < k → xs[j]? = some x → labOk x.data.toList) ∧ Below w.heap.size w wr) (fun i _ => n - (intOf i).toNat)
  case atStart => exact ⟨0, Nat.zero_le _, rfl, fun j x h => absurd h (by omega), Below.refl _ _⟩
  case round =>
    obtain ⟨k, hk, rfl, hall, hbe⟩ := hrel
    by_cases hlt : k < n
    · obtain ⟨x, hxk⟩ : ∃ x, xs[k]? = some x := ⟨xs[k]'(by omega), List.getElem?_eq_getElem _⟩
      obtain ⟨b, o, rfl, h1⟩ := (HB.out.later hbe (Nat.le_refl _)).get (k := k) (x := .string x) (by unfold sv; rw [List.getElem?_map, hxk]; rfl)
      have K := Lib.hid (wrong_any x (hx x (List.mem_of_getElem? hxk)) wr)
      have HX := Lib.hid (And.intro hxk (And.intro hall hbe))
      clear hxk hall hbe
      by_cases hs : labOk x.data.toList
      · rw [decide_eq_false (show ¬ ¬ labOk x.data.toList from fun h => h hs)] at K
        have HS := Lib.hid hs
        clear hs
        go_wp2_with fail
        refine K.out.mono ?_
        rintro e w' ⟨rfl, hw⟩
        have HW := Lib.hid (HX.out.2.2.trans (hw.mono HX.out.2.2.size))
        clear hw
        go_wp2_with fail
        refine ⟨⟨k + 1, hlt, by go_num, fun j y hj hy => ?_, HW.out⟩, by simp [intOf]; omega⟩
        by_cases hjk : j = k
        · subst hjk
          rw [HX.out.1] at hy
          obtain rfl := Option.some.inj hy
          exact HS.out
        · exact HX.out.2.1 j y (by omega) hy
      · rw [decide_eq_true hs] at K
        have HS := Lib.hid hs
        clear hs
        go_wp2_with fail
        refine K.out.mono ?_
        rintro e w' ⟨rfl, hw⟩
        have HW := Lib.hid (HX.out.2.2.trans (hw.mono HX.out.2.2.size))
        clear hw
        go_wp2_with fail
        go_ret
        exact ⟨k, rfl, ⟨fun _ => ⟨x.data.toList, List.mem_map.2 ⟨x, List.mem_of_getElem? HX.out.1, rfl⟩, HS.out⟩, fun _ => by omega⟩, HW.out⟩
    · obtain rfl : k = n := by omega
      have HX := Lib.hid (And.intro hall hbe)
      clear hall hbe
      go_wp2_with fail
      go_ret
      refine ⟨-1, rfl, ⟨fun h => absurd h (by decide), ?_⟩, HX.out.2⟩
      rintro ⟨x, hm, hs⟩
      obtain ⟨y, hy, rfl⟩ := List.mem_map.1 hm
      obtain ⟨j, hj⟩ := List.mem_iff_getElem?.1 hy
      exact absurd (HX.out.1 j y (by have := (List.getElem?_eq_some_iff.1 hj).1; omega) hj) hs
theorem contS_any {A : Option Addr} {n c : Nat} {xs : List ByteArray} {w : World} (hb : Gs w A n c (sv xs)) (hx : ∀ x ∈ xs, x.size ≤ 1000000) : Calls Tryz.prog 143 #[.slice A n c, .func (.func 145) #[] #[]] w fun e w' =>
    ∃ d, e = .returned (.bool d) ∧ (d = true ↔ ∃ x ∈ bts xs, ¬ labOk x) ∧ Below w.heap.size w w' := by
  have K := Lib.hid (indexS_any hb hx)
  clear hb
  go_enter Tryz.func143, Tryz.ntmps143
  go_wp2_with fail
  refine K.out.mono ?_
  rintro e w' ⟨r, rfl, hr, hw⟩
  have HW := Lib.hid (And.intro hr hw)
  clear hr hw
  go_wp2_with fail
  go_ret
  exact ⟨_, rfl, decide_eq_true_iff.trans HW.out.1, HW.out.2⟩
theorem right_iff (l : List UInt8) : rightN l ↔ l.length + 2 ≤ 255 ∧ ¬ ∃ x ∈ labsN l, ¬ labOk x := by
  unfold rightN
  have h : (∀ x ∈ labsN l, labOk x) ↔ ¬ ∃ x ∈ labsN l, ¬ labOk x := ⟨fun h ⟨x, hx, hn⟩ => hn (h x hx), fun h x hx => Decidable.byContradiction fun hn => h ⟨x, hx, hn⟩⟩
  rw [h]
  by_cases h0 : l = []
  · subst h0
    simp [labsN, sizeL]
  · rw [sizeL_labsN h0]
    constructor
    · rintro ⟨h1, h2⟩; exact ⟨by omega, h1⟩
    · rintro ⟨h1, h2⟩; exact ⟨h2, by omega⟩
theorem labsN_le (l : List UInt8) : ∀ x ∈ labsN l, x.length ≤ l.length := fun x hx => by
  unfold labsN at hx
  split at hx
  · cases hx
  · exact splN_mem_len 46 l _ x hx
theorem mkSs_size {l : List UInt8} : ∀ x ∈ mkSs (labsN l), x.size ≤ l.length := fun x hx => by
  obtain ⟨y, hy, rfl⟩ := List.mem_map.1 hx
  rw [mkS_size]
  exact labsN_le l y hy
theorem right_any (s : ByteArray) (hs : s.size ≤ 1000000) {w : World} (hE : Env w) : Calls Tryz.prog 125 #[.string s] w fun e w' => e = .returned (.bool (decide (rightN s.data.toList))) ∧ Below w.heap.size w w' := by
  have hsz : s.data.toList.length = s.size := (Lib.size_eq s).symm
  have hr := right_iff s.data.toList
  rw [hsz] at hr
  by_cases h : s.size + 2 ≤ 255
  · have e1 : ∀ d : Bool, (d = true ↔ ∃ x ∈ labsN s.data.toList, ¬ labOk x) → decide (rightN s.data.toList) = !d := fun d hd => by
      cases d with
      | true => exact decide_eq_false (fun h' => (hr.1 h').2 (hd.1 rfl))
      | false => exact decide_eq_true (hr.2 ⟨h, fun h' => by have := hd.2 h'; cases this⟩)
    have K := Lib.hid (labels_any s hs hE)
    have HZ := Lib.hid hsz
    have HR := Lib.hid e1
    clear hr hE e1 hsz
    go_enter Tryz.func125, Tryz.ntmps125
    go_wp2_with fail
    refine K.out.mono ?_
    rintro e w1 ⟨A, n, c, rfl, hG, hW⟩
    have K2 := contS_any hG (fun x hx => by have := mkSs_size x hx; rw [HZ.out] at this; omega)
    rw [bts_mk] at K2
    have H1 := Lib.hid (And.intro K2 hW)
    clear hG hW K2
    go_wp2_with fail
    refine H1.out.1.mono ?_
    rintro e w2 ⟨d, rfl, hd, hW⟩
    have hd' := HR.out d hd
    have H2 := Lib.hid (H1.out.2.trans (hW.mono H1.out.2.size))
    have H3 := Lib.hid hd'
    clear hW hd hd'
    go_wp2_with fail
    go_ret
    rw [H3.out]
    exact ⟨rfl, H2.out⟩
  · rw [decide_eq_false (show ¬ rightN s.data.toList from fun h' => h (hr.1 h').1)]
    clear hr hE hsz
    go_enter Tryz.func125, Tryz.ntmps125
    go_wp2_with fail
    go_ret
    exact ⟨rfl, Below.refl _ _⟩
end Go.Proofs.YtoagfmonfgagbaaGreatDoor

namespace Go.Proofs.YtoagfmonfgagbaaGreatDoor
open Go.RowKit
set_option maxRecDepth 100000
theorem nmRun_step {l out : List UInt8} {k : Nat} {c : UInt8} (hk : l[k]? = some c) (h60 : out.length < 60) : nmRun (l.drop k) out = nmRun (l.drop (k + 1)) (nmStep out c) := by
  rw [drop_at hk]
  conv => lhs; unfold nmRun
  rw [if_neg (by omega)]
theorem last_at {out : List UInt8} {m : Nat} (h : out.length = m + 1) : ∃ y, out[m]? = some y ∧ out.getLast? = some y := by
  have h1 : out[m]? = some (out[m]'(by omega)) := List.getElem?_eq_getElem _
  refine ⟨_, h1, ?_⟩
  rw [List.getLast?_eq_getElem?, show out.length - 1 = m by omega]
  exact h1
set_option maxHeartbeats 4000000 in
theorem playName_any (s : ByteArray) (hs : s.size ≤ 9223372036854775807) (w : World) : Calls Tryz.prog 21 #[.string s] w fun e w' => e = .returned (.string (mkS (playN s.data.toList))) ∧ Below w.heap.size w w' := by
  have HL := Lib.hid (Lib.size_eq s).symm
  obtain ⟨R, hR⟩ : ∃ R, playN s.data.toList = R := ⟨_, rfl⟩
  rw [hR]
  unfold playN at hR
  have HR := Lib.hid hR
  clear hR
  go_enter Tryz.func21, Tryz.ntmps21
  go_wp2_with fail
  go_loopw [3, 4] (fun v i wr => ∃ (k : Nat) (out : List UInt8) (n : Nat), k ≤ s.size ∧ i = .int .i64 k ∧ out.length = n ∧ n ≤ 60 ∧ wr.ownsRow w.heap.size 5 1 v n (bv out) ∧ nmRun s.data.toList [] = nmRun (s.data.toList.drop k) out ∧ Below w.heap.size w wr) (fun _ i _ => s.size - (intOf i).toNat)
  case atStart => exact ⟨0, [], 0, Nat.zero_le _, rfl, rfl, by decide, World.ownsRow_nil _ _ _ _, rfl, Below.refl _ _⟩
  case round =>
    obtain ⟨k, out, n, hk, rfl, hn, h60, ho, hrun, hbe⟩ := hrel
    obtain ⟨A, c, rfl, hB⟩ := Bs.of_own ho
    by_cases hgo : k < s.size ∧ n < 60
    · obtain ⟨hlt, hl60⟩ := hgo
      obtain ⟨x, hx, hsk⟩ := str_at (s := s) (i := k) hlt
      have hst := nmRun_step hx (by rw [hn]; exact hl60)
      have hxl := x.toNat_lt
      have HO := Lib.hid (And.intro ho (And.intro (hrun.trans hst) hbe))
      clear ho hrun hst hbe hx
      have happ : ∀ (v3 : Value) (w3 : World) (u : Value), u = .int .u8 x.toNat → nmStep out x = out ++ [x] → w3.ownsRow w.heap.size 5 1 v3 (n + 1) (bv (out ++ [x])) → (wr.alloc (.cells #[u] 5)).grownBy w3 (Value.ownBlock (.slice A n c)) → (∃ (k' : Nat) (out' : List UInt8) (n' : Nat), k' ≤ s.size ∧ Value.int IntKind.i64 ((k : Int) + 1) = .int .i64 k' ∧ out'.length = n' ∧ n' ≤ 60 ∧ w3.ownsRow w.heap.size 5 1 v3 n' (bv out') ∧ nmRun s.data.toList [] = nmRun (s.data.toList.drop k') out' ∧ Below w.heap.size w w3) := fun v3 w3 u hu hstp o3 g3 => by
        refine ⟨k + 1, out ++ [x], n + 1, hlt, by congr 1, by simp [hn], by omega, o3, by rw [← hstp]; exact HO.out.2.1, ?_⟩
        exact (HO.out.2.2.alloc HO.out.2.2.size _).grown g3 (by have := HO.out.2.2.size; simp; omega) (fun q hq => (HO.out.1.lt q hq).1)
      have HA := Lib.hid happ
      clear happ
      by_cases h46 : x.toNat = 46
      · have hx46 : x = 46 := UInt8.toNat_inj.1 h46
        by_cases h0 : n = 0
        · subst h0
          have hno : nmStep out x = out := by
            unfold nmStep
            rw [if_neg]
            rintro (⟨_, h, _⟩ | h)
            · exact h (List.eq_nil_of_length_eq_zero hn)
            · exact h.2.2.1 h46
          have HN := Lib.hid hno
          have HNN := Lib.hid hn
          clear hno hx46 hB hn
          go_wp2_with fail
          refine ⟨⟨k + 1, out, 0, hlt, by go_num, HNN.out, h60, HO.out.1, by rw [HO.out.2.1, HN.out], HO.out.2.2⟩, by simp [intOf]; omega⟩
        · obtain ⟨m, rfl⟩ : ∃ m, n = m + 1 := ⟨n - 1, by omega⟩
          obtain ⟨y, hy, hlast⟩ := last_at hn
          obtain ⟨b, off, rfl, hc⟩ := hB.here (by omega)
          have hcy := hc m y hy
          clear hc hB h0
          by_cases hy46 : y.toNat = 46
          · have hno : nmStep out x = out := by
              unfold nmStep
              rw [if_neg]
              rintro (⟨_, _, h⟩ | h)
              · exact h (by rw [hlast, UInt8.toNat_inj.1 (hy46.trans (show 46 = (46 : UInt8).toNat from rfl))])
              · exact h.2.2.1 h46
            have HN := Lib.hid hno
            have HNN := Lib.hid hn
            clear hno hx46 hlast hy hn
            go_wp2_with fail
            refine ⟨⟨k + 1, out, m + 1, hlt, by go_num, HNN.out, h60, HO.out.1, by rw [HO.out.2.1, HN.out], HO.out.2.2⟩, by simp [intOf]; omega⟩
          · have hyes : nmStep out x = out ++ [x] := by
              unfold nmStep
              rw [if_pos (.inl ⟨hx46, fun e => by rw [e] at hn; simp at hn, fun e => by rw [hlast] at e; exact hy46 (by rw [Option.some.inj e]; rfl)⟩)]
            have hu : Value.int IntKind.u8 46 = .int .u8 (x.toNat : Int) := by rw [h46]; rfl
            have HN := Lib.hid hyes
            have HNN := Lib.hid hn
            have HU := Lib.hid hu
            have hy46' : ((y.toNat : Int) != 46) = true := by rw [bne_iff_ne]; omega
            clear hyes hx46 hlast hy hn hy46 hu
            go_wp2_with (at_builtin; refine wpList_append_bs rfl (.tmp 58) (.tmp 60) 67 rfl w.heap.size 5 info5 Tryz.underlying67 _ (m + 1) out rfl (HO.out.1.alloc _) _ 1 1 [x] rfl (by exact Bs.lit _ [x] 1 rfl (by unfold maxLen; omega) _ (by rw [HU.out]; rfl) _) (by omega) (by have := HO.out.2.2.size; simp; omega) ?_; intro v3 w3 o3 g3 n3 m3; have H3 := Lib.hid (And.intro o3 g3); clear o3 g3 n3 m3)
            refine ⟨HA.out v3 w3 _ HU.out HN.out H3.out.1 H3.out.2, by simp [intOf]; omega⟩
      · by_cases hsg : sign x
        · have hyes : nmStep out x = out ++ [x] := by
            unfold nmStep
            rw [if_pos (.inr hsg)]
          have HN := Lib.hid hyes
          have HNN := Lib.hid hn
          clear hyes hn hB
          unfold sign at hsg
          have hb46 : ((x.toNat : Int) == 46) = false := by rw [beq_eq_false_iff_ne]; omega
          have hn46 : ((x.toNat : Int) != 46) = true := by rw [bne_iff_ne]; omega
          have h32 : 32 < x.toNat := by omega
          have h127 : x.toNat < 127 := by omega
          rcases (show x.toNat < 65 ∨ ¬ x.toNat < 65 ∧ 90 < x.toNat by omega) with h65 | ⟨h65, h90⟩
          all_goals
            clear hsg h46
            go_wp2_with (at_builtin; refine wpList_append_bs rfl (.tmp 58) (.tmp 60) 67 rfl w.heap.size 5 info5 Tryz.underlying67 _ n out rfl (HO.out.1.alloc _) _ 1 1 [x] rfl (by exact Bs.lit _ [x] 1 rfl (by unfold maxLen; omega) _ rfl _) (by omega) (by have := HO.out.2.2.size; simp; omega) ?_; intro v3 w3 o3 g3 n3 m3; have H3 := Lib.hid (And.intro o3 g3); clear o3 g3 n3 m3)
            refine ⟨HA.out v3 w3 _ rfl HN.out H3.out.1 H3.out.2, by simp [intOf]; omega⟩
        · have hno : nmStep out x = out := by
            unfold nmStep
            rw [if_neg]
            rintro (⟨h, _⟩ | h)
            · exact h46 (by rw [h]; rfl)
            · exact hsg h
          have HN := Lib.hid hno
          have HNN := Lib.hid hn
          clear hno hn hB
          unfold sign at hsg
          have hb46 : ((x.toNat : Int) == 46) = false := by rw [beq_eq_false_iff_ne]; omega
          have hn46 : ((x.toNat : Int) != 46) = true := by rw [bne_iff_ne]; omega
          rcases (show x.toNat ≤ 32 ∨ (32 < x.toNat ∧ 127 ≤ x.toNat) ∨ (32 < x.toNat ∧ x.toNat < 127 ∧ 65 ≤ x.toNat ∧ x.toNat ≤ 90) by omega) with h1 | ⟨h1, h2⟩ | ⟨h1, h2, h3, h4⟩
          all_goals
            clear hsg h46
            go_wp2_with fail
            refine ⟨⟨k + 1, out, n, hlt, by go_num, HNN.out, h60, HO.out.1, by rw [HO.out.2.1, HN.out], HO.out.2.2⟩, by simp [intOf]; omega⟩
    · have hend : R = trimDot out := by
        rw [← HR.out, hrun]
        by_cases hks : k < s.size
        · rw [nmRun_full (by omega)]
        · rw [List.drop_eq_nil_of_le (by rw [HL.out]; omega)]
          rfl
      have hcase : ¬ k < s.size ∨ (k < s.size ∧ n = 60) := by omega
      have HE := Lib.hid (And.intro hend hbe)
      clear hend hbe hgo hrun ho
      by_cases h0 : n = 0
      · subst h0
        obtain rfl := List.eq_nil_of_length_eq_zero hn
        have hcv := hB.convert (P := Tryz.prog) 67 5 9 Tryz.underlying67 Tryz.underlying5 Tryz.underlying9
        have hlt : ¬ k < s.size := by omega
        clear hcase hB
        go_wp2_with fail
        go_ret
        rw [HE.out.1]
        exact ⟨rfl, HE.out.2⟩
      · obtain ⟨m, rfl⟩ : ∃ m, n = m + 1 := ⟨n - 1, by omega⟩
        obtain ⟨y, hy, hlast⟩ := last_at hn
        obtain ⟨b, off, rfl, hc⟩ := hB.here (by omega)
        have hcy := hc m y hy
        have hcap := hB.cap
        clear hc h0
        by_cases hy46 : y.toNat = 46
        · have htr : trimDot out = out.take m := by
            unfold trimDot
            rw [if_pos (by rw [hlast, UInt8.toNat_inj.1 (hy46.trans (show 46 = (46 : UInt8).toNat from rfl))]), List.dropLast_eq_take, hn, Nat.add_sub_cancel]
          have hB2 := hB.cut (i := 0) (k := m) (by omega) (A' := some ⟨b, off, none⟩) (fun _ => rfl) (fun h => h)
          rw [List.drop_zero, Nat.sub_zero] at hB2
          have hcv := hB2.convert (P := Tryz.prog) 67 5 9 Tryz.underlying67 Tryz.underlying5 Tryz.underlying9
          have HT := Lib.hid htr
          clear hB hB2 htr hy hlast
          rcases hcase with hks | ⟨hks, hm⟩
          · go_wp2_with fail
            go_ret
            rw [HE.out.1, HT.out]
            exact ⟨rfl, HE.out.2⟩
          · obtain rfl : m = 59 := by omega
            go_wp2_with fail
            go_ret
            rw [HE.out.1, HT.out]
            exact ⟨rfl, HE.out.2⟩
        · have htr : trimDot out = out := by
            unfold trimDot
            rw [if_neg (fun e => by rw [hlast] at e; exact hy46 (by rw [Option.some.inj e]; rfl))]
          have hcv := hB.convert (P := Tryz.prog) 67 5 9 Tryz.underlying67 Tryz.underlying5 Tryz.underlying9
          have hb46 : ((y.toNat : Int) == 46) = false := by rw [beq_eq_false_iff_ne]; omega
          have HT := Lib.hid htr
          clear hB htr hy hlast hy46
          rcases hcase with hks | ⟨hks, hm⟩
          · go_wp2_with fail
            go_ret
            rw [HE.out.1, HT.out]
            exact ⟨rfl, HE.out.2⟩
          · obtain rfl : m = 59 := by omega
            go_wp2_with fail
            go_ret
            rw [HE.out.1, HT.out]
            exact ⟨rfl, HE.out.2⟩
end Go.Proofs.YtoagfmonfgagbaaGreatDoor

namespace Go.Proofs.YtoagfmonfgagbaaGreatDoor
open Go.RowKit
set_option maxRecDepth 100000
set_option maxHeartbeats 1000000 in
theorem ref_label (s : ByteArray) (hs : s.size ≤ 1000000) (w : World) : Calls Tryz.prog 104 #[.string s] w fun e w' => e = .returned (.bool (decide (labOk s.data.toList))) ∧ w = w' := by
  have HL := Lib.hid (Lib.size_eq s).symm
  go_enter Tryz.func104, Tryz.ntmps104
  go_wp2_with fail
  go_loop [3] (fun i => ∃ k : Nat, k ≤ s.size ∧ i = .int .i64 k ∧ ∀ (j : Nat) (x : UInt8), j < k → s.data.toList[j]? = some x → sign x) (fun i => s.size - (intOf i).toNat)
  case atStart => exact ⟨0, Nat.zero_le _, rfl, fun j x h => absurd h (by omega)⟩
  case round =>
    obtain ⟨k, hk, rfl, hall⟩ := hrel
    by_cases hlt : k < s.size
    · obtain ⟨x, hx, hsk⟩ := str_at (s := s) (i := k) hlt
      have hxl := x.toNat_lt
      have HX := Lib.hid (And.intro hx hall)
      clear hx hall
      by_cases hsg : sign x
      · have HS := Lib.hid hsg
        unfold sign at hsg
        obtain ⟨d1, d2, d3, d4⟩ := hsg
        have e1 : ((x.toNat : Int) == 46) = false := by rw [beq_eq_false_iff_ne]; omega
        rcases (show ¬ 65 ≤ x.toNat ∨ (65 ≤ x.toNat ∧ ¬ x.toNat ≤ 90) by omega) with d5 | ⟨d5, d6⟩
        all_goals
          clear d3 d4
          go_wp2_with fail
          go_round
          case rel =>
            refine ⟨k + 1, hlt, by go_num, fun j y hj hy => ?_⟩
            by_cases hjk : j = k
            · subst hjk
              rw [HX.out.1] at hy
              obtain rfl := Option.some.inj hy
              exact HS.out
            · exact HX.out.2 j y (by omega) hy
          case measure => simp [intOf]; omega
      · have hno : decide (labOk s.data.toList) = false := decide_eq_false (fun h => hsg (h.1 x (List.mem_of_getElem? HX.out.1)))
        have HN := Lib.hid hno
        unfold sign at hsg
        rcases (show x.toNat < 33 ∨ (¬ x.toNat < 33 ∧ 126 < x.toNat) ∨ (¬ x.toNat < 33 ∧ ¬ 126 < x.toNat ∧ x.toNat = 46) ∨ (¬ x.toNat < 33 ∧ ¬ 126 < x.toNat ∧ x.toNat ≠ 46 ∧ 65 ≤ x.toNat ∧ x.toNat ≤ 90) by omega) with d1 | ⟨d1, d2⟩ | ⟨d1, d2, d3⟩ | ⟨d1, d2, d3, d4, d5⟩
        all_goals
          clear hsg hno
          go_wp2_with fail
          go_ret
          rw [HN.out]
          exact ⟨rfl, rfl⟩
    · obtain rfl : k = s.size := by omega
      have e1 : decide (labOk s.data.toList) = (decide (1 ≤ (s.size : Int)) && decide ((s.size : Int) ≤ 63)) := by
        rw [Bool.eq_iff_iff, decide_eq_true_iff, Bool.and_eq_true, decide_eq_true_iff, decide_eq_true_iff]
        unfold labOk
        rw [HL.out]
        constructor
        · rintro ⟨_, h2, h3⟩; omega
        · rintro ⟨h2, h3⟩
          refine ⟨fun c hc => ?_, by omega, by omega⟩
          obtain ⟨j, hj⟩ := List.mem_iff_getElem?.1 hc
          exact hall j c (by have := (List.getElem?_eq_some_iff.1 hj).1; rw [HL.out] at this; exact this) hj
      have E1 := Lib.hid e1
      clear hall e1
      by_cases h1 : 1 ≤ s.size
      · go_wp2_with fail
        go_ret
        refine ⟨?_, rfl⟩
        rw [E1.out, decide_eq_true (show (1 : Int) ≤ (s.size : Int) by omega), Bool.true_and]
        rfl
      · go_wp2_with fail
        go_ret
        refine ⟨?_, rfl⟩
        rw [E1.out, decide_eq_false (show ¬ (1 : Int) ≤ (s.size : Int) by omega), Bool.false_and]
        rfl
theorem ref_labels (s : ByteArray) (hs : s.size ≤ 10000) (w : World) : Calls Tryz.prog 103 #[.string s] w fun e w' =>
    ∃ A n c, e = .returned (.slice A n c) ∧ Gs w' A n c (sv (mkSs (labsN s.data.toList))) ∧ Below w.heap.size w w' := by
  by_cases h0 : s.size = 0
  · obtain rfl := str_empty h0
    clear h0
    go_enter Tryz.func103, Tryz.ntmps103
    go_wp2_with fail
    go_ret
    exact ⟨none, 0, 0, rfl, Gs.nil _, Below.refl _ _⟩
  · have e0 : s.toList.isEmpty = false := by
      rw [← decide_eq_emptyBytes]
      exact decide_eq_false (fun h => h0 (by rw [h]; rfl))
    have hl : labsN s.data.toList = spl 46 s.data.toList := by
      unfold labsN
      rw [if_neg]
      intro h
      exact h0 (by rw [Lib.size_eq, h]; rfl)
    rw [hl]
    have K := Lib.hid (refSplit_any s hs 46 w)
    clear hl h0
    go_enter Tryz.func103, Tryz.ntmps103
    go_wp2_with fail
    refine K.out.mono ?_
    rintro e w' ⟨v, xs, rfl, o1, hx, b1⟩
    obtain ⟨A, c, rfl, hG⟩ := Gs.of_own o1
    have hxs : xs = mkSs (spl 46 s.data.toList) := by rw [← hx, mk_bts]
    subst hxs
    have H1 := Lib.hid (And.intro hG b1)
    clear o1 hx b1 hG
    go_wp2_with fail
    go_ret
    exact ⟨_, _, _, rfl, H1.out.1, H1.out.2⟩
theorem sizeL_one (ls : List (List UInt8)) (x : List UInt8) : sizeL (ls ++ [x]) = sizeL ls + (1 + x.length) := by
  rw [sizeL_append]; rfl
theorem mem_sizeL : ∀ (ls : List (List UInt8)) (x : List UInt8), x ∈ ls → 1 + x.length ≤ sizeL ls
  | [], _, h => by cases h
  | y :: r, x, h => by
    have e : sizeL (y :: r) = (1 + y.length) + sizeL r := rfl
    rw [e]
    rcases List.mem_cons.1 h with rfl | h
    · omega
    · have := mem_sizeL r x h; omega
theorem sizeL_take_next {ls : List (List UInt8)} {k : Nat} {x : List UInt8} (h : ls[k]? = some x) : sizeL (ls.take (k + 1)) = sizeL (ls.take k) + (1 + x.length) := by
  rw [List.take_add_one, h]
  exact sizeL_one _ x
theorem sizeL_take_le (ls : List (List UInt8)) (k : Nat) : sizeL (ls.take k) ≤ sizeL ls := by
  have h1 := sizeL_append (ls.take k) (ls.drop k)
  rw [List.take_append_drop] at h1
  omega
theorem labs_size (l : List UInt8) : sizeL (labsN l) ≤ l.length + 1 := by
  by_cases h : l = []
  · rw [h]; decide
  · rw [sizeL_labsN h]; exact Nat.le_refl _
set_option maxHeartbeats 1000000 in
theorem ref_right (s : ByteArray) (hs : s.size ≤ 10000) (w : World) : Calls Tryz.prog 83 #[.string s] w fun e w' => e = .returned (.bool (decide (rightN s.data.toList))) ∧ Below w.heap.size w w' := by
  have K := Lib.hid (ref_labels s hs w)
  have hsl := labs_size s.data.toList
  rw [(Lib.size_eq s).symm] at hsl
  obtain ⟨dd, hdd⟩ : ∃ dd, decide (rightN s.data.toList) = dd := ⟨_, rfl⟩
  rw [hdd]
  have hiff : dd = true ↔ (∀ x ∈ labsN s.data.toList, labOk x) ∧ 1 + sizeL (labsN s.data.toList) ≤ 255 := by rw [← hdd, decide_eq_true_iff]; exact Iff.rfl
  clear hdd
  obtain ⟨ls, hls⟩ : ∃ ls, labsN s.data.toList = ls := ⟨_, rfl⟩
  rw [hls] at K hsl hiff
  have HD := Lib.hid hiff
  clear hiff
  have hge := sizeL_ge ls
  clear hls
  go_enter Tryz.func83, Tryz.ntmps83
  go_wp2_with fail
  refine K.out.mono ?_
  rintro e w1 ⟨A, n, c, rfl, hG, b1⟩
  have hn : n = ls.length := by have := hG.len; unfold sv mkSs at this; rw [List.length_map, List.length_map] at this; exact this.symm
  subst hn
  have hcap := hG.cap
  have hmax := hG.max
  unfold maxLen at hmax
  have H1 := Lib.hid (And.intro hG b1)
  clear hG b1
  go_wp2_with fail
  go_loop [4, 5] (fun n i => ∃ k : Nat, k ≤ ls.length ∧ i = .int .i64 k ∧ n = .int .i64 (1 + (sizeL (ls.take k) : Nat) : Int) ∧ ∀ (j : Nat) x, j < k → ls[j]? = some x → labOk x) (fun _ i => ls.length - (intOf i).toNat)
  case atStart => exact ⟨0, Nat.zero_le _, rfl, rfl, fun j x h => absurd h (by omega)⟩
  case round =>
    obtain ⟨k, hk, rfl, rfl, hall⟩ := hrel
    have hst := sizeL_take_le ls k
    by_cases hlt : k < ls.length
    · obtain ⟨x, hxk⟩ : ∃ x, ls[k]? = some x := ⟨ls[k]'hlt, List.getElem?_eq_getElem _⟩
      obtain ⟨b, o, rfl, h1⟩ := H1.out.1.get (k := k) (x := .string (mkS x)) (by unfold sv mkSs; rw [List.map_map, List.getElem?_map, hxk]; rfl)
      have hxl := mem_sizeL ls x (List.mem_of_getElem? hxk)
      have hxs : (mkS x).size = x.length := mkS_size x
      have KL := Lib.hid (ref_label (mkS x) (by rw [hxs]; omega) w1)
      rw [mkS_data] at KL
      have HX := Lib.hid (And.intro hxk (And.intro hall (sizeL_take_next hxk)))
      clear hall hxk
      by_cases hok : labOk x
      · rw [decide_eq_true hok] at KL
        have HO := Lib.hid hok
        clear hok
        go_wp2_with fail
        refine KL.out.mono ?_
        rintro e w' ⟨rfl, rfl⟩
        go_wp2_with fail
        go_round
        case rel =>
          refine ⟨k + 1, hlt, by go_num, by rw [HX.out.2.2]; push_cast; congr 1; omega, fun j y hj hy => ?_⟩
          by_cases hjk : j = k
          · subst hjk
            rw [HX.out.1] at hy
            obtain rfl := Option.some.inj hy
            exact HO.out
          · exact HX.out.2.1 j y (by omega) hy
        case measure => simp [intOf]; omega
      · rw [decide_eq_false hok] at KL
        have hno : dd = false := by
          cases hd : dd with
          | true => exact absurd ((HD.out.1 hd).1 x (List.mem_of_getElem? HX.out.1)) hok
          | false => rfl
        have HN := Lib.hid hno
        clear hok hno
        go_wp2_with fail
        refine KL.out.mono ?_
        rintro e w' ⟨rfl, rfl⟩
        go_wp2_with fail
        go_ret
        exact ⟨by rw [HN.out]; rfl, H1.out.2⟩
    · obtain rfl : k = ls.length := by omega
      rw [List.take_of_length_le (Nat.le_refl _)]
      have e1 : dd = decide ((1 : Int) + (sizeL ls : Int) ≤ 255) := by
        rw [Bool.eq_iff_iff, decide_eq_true_iff, HD.out]
        constructor
        · rintro ⟨_, h⟩; omega
        · intro h
          refine ⟨fun x hx => ?_, by omega⟩
          obtain ⟨j, hj⟩ := List.mem_iff_getElem?.1 hx
          exact hall j x (List.getElem?_eq_some_iff.1 hj).1 hj
      have E1 := Lib.hid e1
      clear hall e1
      go_wp2_with fail
      go_ret
      exact ⟨by rw [E1.out]; rfl, H1.out.2⟩
end Go.Proofs.YtoagfmonfgagbaaGreatDoor
