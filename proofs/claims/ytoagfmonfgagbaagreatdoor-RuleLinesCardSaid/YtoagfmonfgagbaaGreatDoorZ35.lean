/-
  
-/
import Derived.Test.YtoagfmonfgagbaaGreatDoorZ33
import Derived.Test.YtoagfmonfgagbaaGreatDoorZ32
namespace Go.Proofs.YtoagfmonfgagbaaGreatDoor
open Go.RowKit
set_option maxRecDepth 100000
def groupsv (l : List UInt8) : Option (List Nat) := if l = [] then some [] else allv groupv (splN 58 l 7)
theorem groupsv_len {l : List UInt8} {ns : List Nat} (h : groupsv l = some ns) : ns.length ≤ 8 := by
  unfold groupsv at h
  split at h
  · obtain rfl := Option.some.inj h; simp
  · rw [allv_length h]; exact splN_len _ _ _
theorem groupsv_lt {l : List UInt8} {ns : List Nat} (h : groupsv l = some ns) : ∀ n ∈ ns, n < 65536 := by
  unfold groupsv at h
  split at h
  · obtain rfl := Option.some.inj h; simp
  · exact allv_lt (fun l n h => groupv_lt h) h
def Grps (r : Option (List Nat)) (w : World) (e : Ending) (w' : World) : Prop :=
  Below w.heap.size w w' ∧ match r with
    | some ns => ∃ A c, e = .returned (.tuple #[.slice A ns.length c, .nilIface]) ∧ Gs w' A ns.length c (iv ns)
    | none => ∃ er, e = .returned (.tuple #[.slice none 0 0, er]) ∧ Dead w' er
theorem groups_any (s : ByteArray) (hs : s.size < 4294967281) {w : World} (hE : Env w) : Calls Tryz.prog 141 #[.string s] w (Grps (groupsv s.data.toList) w) := by
  have HE := Lib.hid hE
  clear hE
  by_cases h0 : s.size = 0
  · have ht : s = ⟨#[]⟩ := by
      obtain ⟨⟨l⟩⟩ := s
      cases l with
      | nil => rfl
      | cons _ _ => simp [ByteArray.size] at h0
    subst ht
    clear h0
    go_enter Tryz.func141, Tryz.ntmps141
    go_wp2
    go_ret2
    exact ⟨Below.refl _ _, none, 0, rfl, Gs.nil _⟩
  · have hemp : s.toList.isEmpty = false := by
      rw [← decide_eq_emptyBytes]
      exact decide_eq_false (fun h => h0 (by rw [h]; rfl))
    have hr : groupsv s.data.toList = allv groupv (splN 58 s.data.toList 7) := by
      unfold groupsv
      rw [if_neg]
      intro h
      have := Lib.size_eq s
      rw [h] at this
      exact h0 this
    have hl : s.data.toList.length = s.size := (Lib.size_eq s).symm
    have HL := Lib.hid (And.intro hl hr)
    clear hl hr h0
    go_enter Tryz.func141, Tryz.ntmps141
    go_wp2_with fail
    refine (splitN_any 58 8 (by omega) (by omega) s hs HE.out).mono ?_
    rintro e w2 ⟨b, xs, cap, rfl, hxc, hc1, hx, hss, b2⟩
    have hxlen : ∀ x ∈ xs, x.size ≤ maxLen := fun x hx' => by
      have h1 : x.data.toList ∈ splN 58 s.data.toList 7 := by rw [← hx]; exact List.mem_map_of_mem hx'
      have h2 := splN_mem_len 58 _ _ _ h1
      rw [← Lib.size_eq] at h2
      have h3 := HL.out.1
      unfold maxLen
      omega
    have k := each_group b xs cap (by omega) hxc (by unfold maxLen; omega) hxlen (HE.out.later b2 (Nat.le_refl _)) hss
    rw [hx] at k
    have K := Lib.hid k
    have H2 := Lib.hid b2
    clear hx hss b2 hxlen k
    cases ha : allv groupv (splN 58 s.data.toList (8 - 1)) with
    | none =>
      rw [ha] at K
      have HA := Lib.hid (HL.out.2.trans ha)
      clear ha
      go_wp2_with fail
      refine K.out.mono ?_
      rintro e w3 ⟨b3, er, rfl, d3⟩
      have H3 := Lib.hid (And.intro (H2.out.trans (b3.mono H2.out.size)) d3)
      clear b3 d3
      go_wp2_with fail
      go_ret2
      rw [HA.out]
      exact ⟨H3.out.1, _, rfl, H3.out.2⟩
    | some ns =>
      rw [ha] at K
      have HA := Lib.hid (HL.out.2.trans ha)
      clear ha
      go_wp2_with fail
      refine K.out.mono ?_
      rintro e w3 ⟨b3, g3, rfl, hg3, r3⟩
      have H3 := Lib.hid (And.intro (H2.out.trans (b3.mono H2.out.size)) r3)
      clear b3 r3 hg3
      go_wp2_with fail
      go_ret2
      rw [HA.out]
      have h8 := groupsv_len HA.out
      exact ⟨H3.out.1, _, _, rfl, Gs.of_row H3.out.2 (iv_length _) (by unfold maxLen; omega)⟩
def g2 (ns : List Nat) : List UInt8 := ns.flatMap fun n => [UInt8.ofNat (n / 256), UInt8.ofNat (n % 256)]
def six (l : List UInt8) : Option (List UInt8) :=
  (groupsv (Lib.cut l [58, 58]).1).bind fun x => (groupsv (Lib.cut l [58, 58]).2.1).bind fun y =>
    if x.length + y.length ≤ 8 ∧ (Lib.cut l [58, 58]).2.2 = decide (x.length + y.length < 8) then some (g2 (x ++ List.replicate (8 - x.length - y.length) 0 ++ y)) else none
def P6 (r : Option (List UInt8)) (w : World) (e : Ending) (w' : World) : Prop :=
  Below w.heap.size w w' ∧ match r with
    | some bs => bs.length = 16 ∧ e = .returned (.tuple #[.agg (adv true bs), .nilIface])
    | none => ∃ T x, e = .returned (.tuple #[.agg (adv false (List.replicate 16 0)), .iface T x])
theorem Dead.held {w : World} {v : Value} (h : Dead w v) : ∃ T x, v = .iface T x := by cases h; exact ⟨_, _, rfl⟩
theorem g2_len (ns : List Nat) : (g2 ns).length = 2 * ns.length := by
  induction ns with
  | nil => rfl
  | cons n r ih => simp only [g2, List.flatMap_cons] at ih ⊢; rw [List.length_append, ih]; simp; omega
theorem g2_snoc (a : List Nat) (n : Nat) : g2 (a ++ [n]) = g2 a ++ [UInt8.ofNat (n / 256), UInt8.ofNat (n % 256)] := by simp [g2]
def g2z (ns : List Nat) (k : Nat) : List UInt8 := g2 (ns.take k) ++ List.replicate (16 - 2 * k) 0
theorem g2z_set {ns : List Nat} {k n : Nat} (h : ns.length = 8) (hk : ns[k]? = some n) : ((g2z ns k).set (2 * k) (UInt8.ofNat (n / 256))).set (2 * k + 1) (UInt8.ofNat (n % 256)) = g2z ns (k + 1) := by
  have hlt := (List.getElem?_eq_some_iff.1 hk).1
  have h2 : ns.take (k + 1) = ns.take k ++ [n] := by rw [List.take_add_one, hk]; rfl
  have hl : (g2 (ns.take k)).length = 2 * k := by rw [g2_len, List.length_take]; omega
  unfold g2z
  rw [h2, g2_snoc, show 16 - 2 * k = (16 - 2 * (k + 1)) + 1 + 1 by omega, List.replicate_succ, List.replicate_succ, List.set_append_right _ _ (by omega), hl, Nat.sub_self, List.set_append_right _ _ (by omega), hl, show 2 * k + 1 - 2 * k = 1 by omega]
  simp
end Go.Proofs.YtoagfmonfgagbaaGreatDoor

namespace Go.Proofs.YtoagfmonfgagbaaGreatDoor
open Go.RowKit
set_option maxRecDepth 100000
set_option maxHeartbeats 4000000 in
theorem parse6_any (s : ByteArray) (hs : s.size < 4294967281) {w : World} (hE : Env w) : Calls Tryz.prog 123 #[.string s] w (P6 (six s.data.toList) w) := by
  have hl : s.data.toList.length = s.size := (Lib.size_eq s).symm
  have hcl := cut_len s.data.toList [58, 58]
  have hsix : six s.data.toList = (groupsv (Lib.cut s.data.toList [58, 58]).1).bind fun x => (groupsv (Lib.cut s.data.toList [58, 58]).2.1).bind fun y =>
    if x.length + y.length ≤ 8 ∧ (Lib.cut s.data.toList [58, 58]).2.2 = decide (x.length + y.length < 8) then some (g2 (x ++ List.replicate (8 - x.length - y.length) 0 ++ y)) else none := rfl
  have HE := Lib.hid hE
  clear hE
  go_enter Tryz.func123, Tryz.ntmps123
  go_wp2_with (refine wpList_alloc_ad rfl rfl ?_; intro w1 a1 b1 z1; have H1 := Lib.hid (And.intro a1 (And.intro b1 z1)); clear a1 b1 z1)
  refine (cut_any s ⟨#[58, 58]⟩ hs (HE.out.later H1.out.2.1 (Nat.le_refl _))).mono ?_
  rw [show (ByteArray.mk #[58, 58]).data.toList = [58, 58] from rfl]
  rintro e w2 ⟨rfl, b2⟩
  obtain ⟨la, ra, sh, hc⟩ : ∃ la ra sh, Lib.cut s.data.toList [58, 58] = (la, ra, sh) := ⟨_, _, _, rfl⟩
  rw [hc] at hcl hsix ⊢
  simp only at hcl hsix ⊢
  have H2 := Lib.hid (And.intro (H1.out.1.later b2 (Nat.le_refl _)) (H1.out.2.1.trans (b2.mono H1.out.2.1.size)))
  have HSIX := Lib.hid hsix
  have hla : (ByteArray.mk la.toArray).size < 4294967281 := by show la.toArray.size < _; simp; omega
  have hra : (ByteArray.mk ra.toArray).size < 4294967281 := by show ra.toArray.size < _; simp; omega
  have k1 := groups_any ⟨la.toArray⟩ hla (HE.out.later H2.out.2 (Nat.le_refl _))
  rw [show (ByteArray.mk la.toArray).data.toList = la from by simp] at k1
  have K2 : ∀ w3, Below w.heap.size w w3 → Hid (Calls Tryz.prog 141 #[.string ⟨ra.toArray⟩] w3 (Grps (groupsv ra) w3)) := fun w3 hb => by
    have := groups_any ⟨ra.toArray⟩ hra (HE.out.later hb (Nat.le_refl _))
    rw [show (ByteArray.mk ra.toArray).data.toList = ra from by simp] at this
    exact this
  have K2 := Lib.hid K2
  have K1 := Lib.hid k1
  clear hc b2 hsix hla hra k1 hcl hl
  cases hx : groupsv la with
  | none =>
    rw [hx] at K1 HSIX
    clear hx
    simp only [Option.bind_none] at HSIX
    go_wp2_with fail
    refine K1.out.mono ?_
    rintro e w3 ⟨b3, er, rfl, d3⟩
    obtain ⟨T, xv, rfl⟩ := d3.held
    have H3 := Lib.hid (And.intro (H2.out.1.later b3 (Nat.le_refl _)) (H2.out.2.trans (b3.mono H2.out.2.size)))
    clear b3 d3
    go_wp2_with (refine wpList_store_ad rfl (.tmp 2) (.tmp 27) rfl false (List.replicate 16 0) rfl rfl rfl H3.out.1 ?_; intro w5 a5 o5 z5 b5; have H5 := Lib.hid (And.intro a5 (b5 w.heap.size w (Nat.le_refl _) H3.out.2)); clear a5 o5 z5 b5)
    exact bodyPost_ret (results_ad_tmp rfl _ rfl H5.out.1) rfl (by rw [HSIX.out]; exact ⟨H5.out.2, _, _, rfl⟩)
  | some x =>
    rw [hx] at K1 HSIX
    have hx8 := groupsv_len hx
    have hxl := groupsv_lt hx
    clear hx
    simp only [Option.bind_some] at HSIX
    have HXL := Lib.hid hxl
    clear hxl
    go_wp2_with fail
    refine K1.out.mono ?_
    rintro e w3 ⟨b3, A3, c3, rfl, g3⟩
    have H3 := Lib.hid (And.intro (H2.out.1.later b3 (Nat.le_refl _)) (And.intro (H2.out.2.trans (b3.mono H2.out.2.size)) g3))
    clear b3 g3
    have k2 := (K2.out w3 H3.out.2.1).out
    have K2' := Lib.hid k2
    clear k2
    cases hy : groupsv ra with
    | none =>
      rw [hy] at K2' HSIX
      clear hy
      simp only [Option.bind_none] at HSIX
      go_wp2_with fail
      refine K2'.out.mono ?_
      rintro e w4 ⟨b4, er, rfl, d4⟩
      obtain ⟨T, xv, rfl⟩ := d4.held
      have H4 := Lib.hid (And.intro (H3.out.1.later b4 (Nat.le_refl _)) (H3.out.2.1.trans (b4.mono H3.out.2.1.size)))
      clear b4 d4
      go_wp2_with (refine wpList_store_ad rfl (.tmp 2) (.tmp 36) rfl false (List.replicate 16 0) rfl rfl rfl H4.out.1 ?_; intro w5 a5 o5 z5 b5; have H5 := Lib.hid (And.intro a5 (b5 w.heap.size w (Nat.le_refl _) H4.out.2)); clear a5 o5 z5 b5)
      exact bodyPost_ret (results_ad_tmp rfl _ rfl H5.out.1) rfl (by rw [HSIX.out]; exact ⟨H5.out.2, _, _, rfl⟩)
    | some y =>
      rw [hy] at K2' HSIX
      have hy8 := groupsv_len hy
      have hyl := groupsv_lt hy
      clear hy
      simp only [Option.bind_some] at HSIX
      have HYL := Lib.hid hyl
      clear hyl
      by_cases hok : x.length + y.length ≤ 8 ∧ sh = decide (x.length + y.length < 8)
      · rw [if_pos hok] at HSIX
        obtain ⟨hle, hsh⟩ := hok
        have hmi : (8 : Int) - x.length - y.length = ((8 - x.length - y.length : Nat) : Int) := by omega
        have hmk : ∀ w, (Instr.makeSlice 39 (.int .i64 ((8 : Int) - x.length - y.length)) (.int .i64 ((8 : Int) - x.length - y.length))).run Tryz.prog w = .ok (.slice (some ⟨w.heap.size, 0, none⟩) (8 - x.length - y.length) (8 - x.length - y.length)) (w.alloc (.cells (madeCells #[.int .i64 0] (8 - x.length - y.length)) 3)) := fun w => by rw [hmi]; exact makeInts _ (by omega) w
        have h0 : decide ((8 : Int) - x.length - y.length < 0) = false := decide_eq_false (by omega)
        have hne : (!(sh == decide ((y.length : Int) < 8 - x.length))) = false := by
          rw [hsh, Bool.not_eq_false', beq_iff_eq, decide_eq_decide]; omega
        have HM := Lib.hid hmi
        clear hmi hsh
        go_wp2_with fail
        refine K2'.out.mono ?_
        rintro e w4 ⟨b4, A4, c4, rfl, g4⟩
        have H4 := Lib.hid (And.intro (H3.out.1.later b4 (Nat.le_refl _)) (And.intro (H3.out.2.1.trans (b4.mono H3.out.2.1.size)) (And.intro (H3.out.2.2.later b4 (Nat.le_refl _)) g4)))
        clear b4 g4
        go_wp2_with (first
          | (refine wpList_alloc_ad rfl rfl ?_; intro w5 a5 b5 z5; have H5 := Lib.hid (And.intro a5 (And.intro b5 z5)); clear a5 b5 z5)
          | (refine wpList_store_ad rfl (.tmp 11) (.tmp 54) rfl true (List.replicate 16 0) rfl rfl rfl H5.out.1 ?_; intro w6 a6 o6 z6 b6; have H6 := Lib.hid (And.intro a6 (And.intro (b6 w4.heap.size w4 (Nat.le_refl _) H5.out.2.1) z6)); clear a6 o6 z6 b6))
        have hlen8 : (x ++ List.replicate (8 - x.length - y.length) 0 ++ y).length = 8 := by simp; omega
        have hlt8 : ∀ n ∈ x ++ List.replicate (8 - x.length - y.length) 0 ++ y, n < 65536 := by
          intro n hn
          rcases List.mem_append.1 hn with hn | hn
          · rcases List.mem_append.1 hn with hn | hn
            · exact HXL.out n hn
            · rw [(List.mem_replicate.1 hn).2]; omega
          · exact HYL.out n hn
        have b7 : Below w6.heap.size w6 ((w6.alloc (.cells (madeCells #[.int .i64 0] (8 - x.length - y.length)) 3)).alloc (.cells #[.slice A3 x.length c3, .slice (some ⟨w6.heap.size, 0, none⟩) (8 - x.length - y.length) (8 - x.length - y.length), .slice A4 y.length c4] 39)) := ((Below.refl _ _).alloc (Nat.le_refl _) _).alloc (by simp) _
        have b46 : Below w4.heap.size w4 w6 := H6.out.2.1
        have hp : PiecesI ((w6.alloc (.cells (madeCells #[.int .i64 0] (8 - x.length - y.length)) 3)).alloc (.cells #[.slice A3 x.length c3, .slice (some ⟨w6.heap.size, 0, none⟩) (8 - x.length - y.length) (8 - x.length - y.length), .slice A4 y.length c4] 39)) (w6.heap.size + 1) [⟨A3, x.length, c3, x⟩, ⟨some ⟨w6.heap.size, 0, none⟩, 8 - x.length - y.length, 8 - x.length - y.length, List.replicate (8 - x.length - y.length) 0⟩, ⟨A4, y.length, c4, y⟩] := by
          have hr := (Row.new (w6.alloc (.cells (madeCells #[.int .i64 0] (8 - x.length - y.length)) 3)) #[.slice A3 x.length c3, .slice (some ⟨w6.heap.size, 0, none⟩) (8 - x.length - y.length) (8 - x.length - y.length), .slice A4 y.length c4] 39)
          rw [World.size_alloc] at hr
          have hg : Gs (w6.alloc (.cells (madeCells #[.int .i64 0] (8 - x.length - y.length)) 3)) (some ⟨w6.heap.size, 0, none⟩) (8 - x.length - y.length) (8 - x.length - y.length) (iv (List.replicate (8 - x.length - y.length) 0)) := Gs.lit w6 _ _ (by simp [iv]) (by unfold maxLen; omega) _ (iv_made _) _
          intro i p hi
          match i, hi with
          | 0, hi =>
            obtain rfl := Option.some.inj hi
            exact ⟨hr.cell rfl, (H4.out.2.2.1.later b46 (Nat.le_refl _)).later b7 (Nat.le_refl _)⟩
          | 1, hi =>
            obtain rfl := Option.some.inj hi
            exact ⟨hr.cell rfl, hg.later ((Below.refl _ _).alloc (Nat.le_refl _) _) (Nat.le_refl _)⟩
          | 2, hi =>
            obtain rfl := Option.some.inj hi
            exact ⟨hr.cell rfl, (H4.out.2.2.2.later b46 (Nat.le_refl _)).later b7 (Nat.le_refl _)⟩
          | i + 3, hi => simp at hi
        have hcat := concatI_any (w6.heap.size + 1) 3 3 _ _ rfl (by omega) hp (by simp [totalI]; omega)
        have hfl : flatI [⟨A3, x.length, c3, x⟩, ⟨some ⟨w6.heap.size, 0, none⟩, 8 - x.length - y.length, 8 - x.length - y.length, List.replicate (8 - x.length - y.length) 0⟩, ⟨A4, y.length, c4, y⟩] = x ++ List.replicate (8 - x.length - y.length) 0 ++ y := by simp [flatI]
        have htl : totalI [⟨A3, x.length, c3, x⟩, ⟨some ⟨w6.heap.size, 0, none⟩, 8 - x.length - y.length, 8 - x.length - y.length, List.replicate (8 - x.length - y.length) 0⟩, ⟨A4, y.length, c4, y⟩] = 8 := by simp [totalI]; omega
        rw [hfl, htl] at hcat
        generalize hns : x ++ List.replicate (8 - x.length - y.length) 0 ++ y = ns at hlen8 hlt8 hcat HSIX
        have HN := Lib.hid (And.intro hlen8 hlt8)
        have HB7 := Lib.hid b7
        clear hns hfl htl hp b46 hlen8 hlt8 b7
        refine hcat.mono ?_
        rintro e w8 ⟨v8, rfl, o8, b8⟩
        have q8 := o8.lt
        obtain ⟨A8, c8, rfl, g8⟩ := Gs.of_own o8
        have H8 := Lib.hid (And.intro g8 (And.intro (HB7.out.trans (b8.mono HB7.out.size)) q8))
        clear o8 g8 b8 q8 hcat hmk
        have A8box := H6.out.1.later H8.out.2.1 (Nat.le_refl _)
        have H9 := Lib.hid A8box
        clear A8box
        go_wp2_with fail
        go_loopw [62] (fun i wr => ∃ k : Nat, i = .int .i64 k ∧ k ≤ 8 ∧ Hid (AdBox wr w4.heap.size true (g2z ns k) ∧ Below w4.heap.size w4 wr ∧ Gs wr A8 8 c8 (iv ns))) (fun i _ => 8 - (intOf i).toNat)
        case atStart => exact ⟨0, rfl, by omega, Lib.hid ⟨by simpa [g2z, g2] using H9.out, H6.out.2.1.trans (H8.out.2.1.mono H6.out.2.1.size), H8.out.1⟩⟩
        case round =>
          obtain ⟨k, rfl, hk, hh⟩ := hrel
          by_cases hlt : k < 8
          · obtain ⟨n, hnk⟩ : ∃ n, ns[k]? = some n := ⟨_, List.getElem?_eq_getElem (by rw [HN.out.1]; omega)⟩
            have hn2 := HN.out.2 n (List.mem_of_getElem? hnk)
            obtain ⟨b9, off9, rfl, hrow⟩ := hh.out.2.2.get (iv_at hnk)
            obtain ⟨x1, _, hc1⟩ := hh.out.1.there (2 * k) (by omega)
            have hf1 := hh.out.1.frozen (1 + 2 * k)
            obtain ⟨x2, _, hc2⟩ := hh.out.1.there (2 * k + 1) (by omega)
            have hf2 := hh.out.1.frozen (1 + (2 * k + 1))
            have hb9 : w4.heap.size < b9 := by
              have h1 := (H8.out.2.2 b9 rfl).1
              have h2 := HB7.out.size
              have h3 := H6.out.2.1.size
              simp only [World.size_alloc] at h1
              omega
            have a3 := (hh.out.1.put (2 * k) (UInt8.ofNat (n / 256))).put (2 * k + 1) (UInt8.ofNat (n % 256))
            rw [g2z_set HN.out.1 hnk, show ((UInt8.ofNat (n / 256)).toNat : Int) = (n : Int) / 256 by rw [UInt8.toNat_ofNat']; omega, show ((UInt8.ofNat (n % 256)).toNat : Int) = (n : Int) % 256 by rw [UInt8.toNat_ofNat']; omega] at a3
            have b3 := (hh.out.2.1.setCell (p := ⟨w4.heap.size, 1 + 2 * k, none⟩) (Nat.le_refl _) (.int .u8 ((n : Int) / 256))).setCell (p := ⟨w4.heap.size, 1 + (2 * k + 1), none⟩) (Nat.le_refl _) (.int .u8 ((n : Int) % 256))
            have g3 := (hh.out.2.2.far (p := ⟨w4.heap.size, 1 + 2 * k, none⟩) (by show w4.heap.size ≠ b9; omega) (.int .u8 ((n : Int) / 256))).far (p := ⟨w4.heap.size, 1 + (2 * k + 1), none⟩) (by show w4.heap.size ≠ b9; omega) (.int .u8 ((n : Int) % 256))
            have H10 := Lib.hid (And.intro a3 (And.intro b3 g3))
            clear a3 b3 g3 hnk hb9
            go_wp2_with fail
            go_roundw
            case rel => exact ⟨k + 1, by go_num, by omega, H10⟩
            case measure => simp [intOf]; omega
          · obtain rfl : k = 8 := by omega
            have hg : g2z ns 8 = g2 ns := by unfold g2z; rw [List.take_of_length_le (by rw [HN.out.1]; omega)]; simp
            have hgl : (g2 ns).length = 16 := by rw [g2_len, HN.out.1]
            have hA := hh.out.1
            rw [hg] at hA
            have H10 := Lib.hid (And.intro hA (And.intro (hh.out.2.1) hgl))
            clear hA hg hgl
            go_wp2_with (first
              | (refine wpList_load_ad rfl (.tmp 11) rfl rfl H10.out.1 ?_)
              | (refine wpList_store_ad rfl (.tmp 2) (.tmp 82) rfl true (g2 ns) rfl rfl H10.out.2.2 (H4.out.1.later H10.out.2.1 (Nat.le_refl _)) ?_; intro w11 a5 o5 z5 b5; have H11 := Lib.hid (And.intro a5 (b5 w.heap.size w (Nat.le_refl _) (H4.out.2.1.trans (H10.out.2.1.mono H4.out.2.1.size)))); clear a5 o5 z5 b5))
            exact bodyPost_ret (results_ad_tmp rfl _ rfl H11.out.1) rfl (by rw [HSIX.out]; exact ⟨H11.out.2, H10.out.2.2, rfl⟩)
      · rw [if_neg hok] at HSIX
        by_cases hle : x.length + y.length ≤ 8
        · have h0 : decide ((8 : Int) - x.length - y.length < 0) = false := decide_eq_false (by omega)
          have hne : (!(sh == decide ((y.length : Int) < 8 - x.length))) = true := by
            rw [Bool.not_eq_true', beq_eq_false_iff_ne]
            intro h
            exact hok ⟨hle, by rw [h, decide_eq_decide]; omega⟩
          clear hok
          go_wp2_with fail
          refine K2'.out.mono ?_
          rintro e w4 ⟨b4, A4, c4, rfl, g4⟩
          have H4 := Lib.hid (And.intro (H3.out.1.later b4 (Nat.le_refl _)) (H3.out.2.1.trans (b4.mono H3.out.2.1.size)))
          clear b4 g4
          go_wp2_with (refine wpList_store_ad rfl (.tmp 2) (.tmp 52) rfl false (List.replicate 16 0) rfl rfl rfl H4.out.1 ?_; intro w5 a5 o5 z5 b5; have H5 := Lib.hid (And.intro a5 (b5 w.heap.size w (Nat.le_refl _) H4.out.2)); clear a5 o5 z5 b5)
          exact bodyPost_ret (results_ad_tmp rfl _ rfl H5.out.1) rfl (by rw [HSIX.out]; exact ⟨H5.out.2, _, _, rfl⟩)
        · have h0 : decide ((8 : Int) - x.length - y.length < 0) = true := decide_eq_true (by omega)
          clear hok
          go_wp2_with fail
          refine K2'.out.mono ?_
          rintro e w4 ⟨b4, A4, c4, rfl, g4⟩
          have H4 := Lib.hid (And.intro (H3.out.1.later b4 (Nat.le_refl _)) (H3.out.2.1.trans (b4.mono H3.out.2.1.size)))
          clear b4 g4
          go_wp2_with (refine wpList_store_ad rfl (.tmp 2) (.tmp 52) rfl false (List.replicate 16 0) rfl rfl rfl H4.out.1 ?_; intro w5 a5 o5 z5 b5; have H5 := Lib.hid (And.intro a5 (b5 w.heap.size w (Nat.le_refl _) H4.out.2)); clear a5 o5 z5 b5)
          exact bodyPost_ret (results_ad_tmp rfl _ rfl H5.out.1) rfl (by rw [HSIX.out]; exact ⟨H5.out.2, _, _, rfl⟩)
end Go.Proofs.YtoagfmonfgagbaaGreatDoor
