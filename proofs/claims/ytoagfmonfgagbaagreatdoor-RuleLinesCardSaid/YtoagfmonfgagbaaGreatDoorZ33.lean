/-
  
-/
import Derived.Test.YtoagfmonfgagbaaGreatDoorZ30
import Derived.Test.YtoagfmonfgagbaaGreatDoorZ17
namespace Go.Proofs.YtoagfmonfgagbaaGreatDoor
open Go.RowKit
set_option maxRecDepth 100000
theorem Bad.beside {w w' : World} {v : Value} (h : Bad w v) {g : Nat} {v6 : Bool} {bs : List UInt8} (hA : AdBox w g v6 bs) (ho : ∀ k, k ≠ g → w'.heap[k]? = w.heap[k]?) : Bad w' v := by
  cases h with
  | num => exact .num
  | lib N fn s p h =>
    refine .lib N fn s p ((ho N ?_).trans h)
    rintro rfl
    have := h.symm.trans hA.1
    simp at this
theorem Dead.beside {w w' : World} {v : Value} (h : Dead w v) {g : Nat} {v6 : Bool} {bs : List UInt8} (hA : AdBox w g v6 bs) (ho : ∀ k, k ≠ g → w'.heap[k]? = w.heap[k]?) : Dead w' v := by
  cases h with
  | mk b at_ v h1 h2 =>
    refine .mk b at_ v ((ho b ?_).trans h1) (h2.beside hA ho)
    rintro rfl
    have := h1.symm.trans hA.1
    simp at this
def ab4 (ns : List Nat) : List UInt8 := ns.map UInt8.ofNat ++ List.replicate (16 - ns.length) 0
def four (l : List UInt8) : Option (Option (List UInt8)) := if (splN 46 l 3).length = 4 then some ((allv octetv (splN 46 l 3)).map ab4) else none
def P4 (r : Option (Option (List UInt8))) (w : World) (e : Ending) (w' : World) : Prop :=
  Below w.heap.size w w' ∧ match r with
    | none => e = .returned (.tuple #[.agg (adv false (List.replicate 16 0)), .iface 37 (.int .i64 6)])
    | some none => ∃ er, e = .returned (.tuple #[.agg (adv false (List.replicate 16 0)), er]) ∧ Dead w' er
    | some (some bs) => bs.length = 16 ∧ e = .returned (.tuple #[.agg (adv false bs), .nilIface])
theorem ab4_set {ns : List Nat} {k n : Nat} (hk : ns[k]? = some n) (h : ns.length ≤ 16) : (ab4 (ns.take k)).set k (UInt8.ofNat n) = ab4 (ns.take (k + 1)) := by
  have hlt := (List.getElem?_eq_some_iff.1 hk).1
  have h2 : ns.take (k + 1) = ns.take k ++ [n] := by rw [List.take_add_one, hk]; rfl
  have hl : (ns.take k).length = k := by rw [List.length_take]; omega
  rw [h2]
  unfold ab4
  rw [List.length_append, hl, List.length_singleton, show 16 - k = (16 - (k + 1)) + 1 by omega, List.replicate_succ, List.set_append_right _ _ (by simp; omega), List.length_map, hl, Nat.sub_self]
  simp
set_option maxHeartbeats 2000000 in
theorem parse4_any (s : ByteArray) (hs : s.size < 4294967281) {w : World} (hE : Env w) : Calls Tryz.prog 122 #[.string s] w (P4 (four s.data.toList) w) := by
  have hl : s.data.toList.length = s.size := (Lib.size_eq s).symm
  have HL := Lib.hid hl
  have HE := Lib.hid hE
  clear hE hl
  go_enter Tryz.func122, Tryz.ntmps122
  go_wp2_with (refine wpList_alloc_ad rfl rfl ?_; intro w1 a1 b1 z1; have H1 := Lib.hid (And.intro a1 (And.intro b1 z1)); clear a1 b1 z1)
  refine (splitN_any 46 4 (by omega) (by omega) s hs (HE.out.later H1.out.2.1 (Nat.le_refl _))).mono ?_
  rintro e w2 ⟨b, xs, cap, rfl, hxc, hc1, hx, hss, b2⟩
  have HX := Lib.hid (And.intro hx (And.intro hss (And.intro (H1.out.1.later b2 (Nat.le_refl _)) (H1.out.2.1.trans (b2.mono H1.out.2.1.size)))))
  clear hx hss b2
  by_cases h4 : xs.length = 4
  · have h4i : ((xs.length : Int) != 4) = false := by rw [h4]; rfl
    have hxlen : ∀ x ∈ xs, x.size ≤ maxLen := fun x hx => by
      have h1 : x.data.toList ∈ splN 46 s.data.toList 3 := by rw [← HX.out.1]; exact List.mem_map_of_mem hx
      have h2 := splN_mem_len 46 _ _ _ h1
      rw [← Lib.size_eq] at h2
      have h3 := HL.out
      unfold maxLen
      omega
    have K := Lib.hid (each_octet b xs cap (by omega) hxc (by unfold maxLen; omega) hxlen (HE.out.later HX.out.2.2.2 (Nat.le_refl _)) HX.out.2.1)
    have hr : four s.data.toList = some ((allv octetv (splN 46 s.data.toList 3)).map ab4) := by
      unfold four
      have : (splN 46 s.data.toList 3).length = 4 := by rw [← HX.out.1, List.length_map, h4]
      rw [if_pos this]
    have HR := Lib.hid hr
    have hA := HX.out.1
    rw [hA] at K
    have H4 := Lib.hid h4
    clear hr hxlen hA h4
    cases ha : allv octetv (splN 46 s.data.toList 3) with
    | none =>
      rw [ha] at K HR
      clear ha
      go_wp2_with fail
      refine K.out.mono ?_
      rintro e w3 ⟨b3, er, rfl, d3⟩
      have H3 := Lib.hid (And.intro (HX.out.2.2.1.later b3 (Nat.le_refl _)) (And.intro (HX.out.2.2.2.trans (b3.mono HX.out.2.2.2.size)) d3))
      clear b3 d3
      go_wp2_with (refine wpList_alloc_ad rfl rfl ?_; intro w4 a4 b4 z4; have H4' := Lib.hid (And.intro a4 (And.intro b4 z4)); clear a4 b4 z4)
      go_loopw [24] (fun i wr => i = .int .i64 0 ∧ wr = w4) (fun _ _ => 0)
      case atStart => exact ⟨rfl, rfl⟩
      case round =>
        obtain ⟨rfl, rfl⟩ := hrel
        go_wp2_with (first
          | (refine wpList_load_ad rfl (.tmp 7) rfl rfl H4'.out.1 ?_)
          | (refine wpList_store_ad rfl (.tmp 2) (.tmp 35) rfl false (List.replicate 16 0) rfl rfl rfl (H3.out.1.later H4'.out.2.1 (Nat.le_refl _)) ?_; intro w5 a5 o5 z5 b5; have H5 := Lib.hid (And.intro a5 (And.intro (b5 w.heap.size w (Nat.le_refl _) (H3.out.2.1.trans (H4'.out.2.1.mono H3.out.2.1.size))) ((H3.out.2.2.later H4'.out.2.1 (Nat.le_refl _)).beside (H3.out.1.later H4'.out.2.1 (Nat.le_refl _)) o5))); clear a5 o5 z5 b5))
        exact bodyPost_ret (results_ad_tmp rfl _ rfl H5.out.1) rfl (by rw [HR.out]; exact ⟨H5.out.2.1, _, rfl, H5.out.2.2⟩)
    | some ns =>
      rw [ha] at K HR
      have hnl := allv_length ha
      have hn256 := allv_lt (b := 256) (fun l n h => octetv_lt h) ha
      have hn4 : ns.length = 4 := by rw [hnl, ← HX.out.1, List.length_map, H4.out]
      have HN := Lib.hid (And.intro hn4 hn256)
      clear ha hnl hn256 hn4
      go_wp2_with fail
      refine K.out.mono ?_
      rintro e w3 ⟨b3, g3, rfl, hg3, r3⟩
      have H3 := Lib.hid (And.intro (HX.out.2.2.1.later b3 (Nat.le_refl _)) (And.intro (HX.out.2.2.2.trans (b3.mono HX.out.2.2.2.size)) (And.intro r3 hg3)))
      clear b3 r3 hg3
      rw [HN.out.1]
      go_wp2_with (refine wpList_alloc_ad rfl rfl ?_; intro w4 a4 b4 z4; have H4' := Lib.hid (And.intro a4 (And.intro b4 z4)); clear a4 b4 z4)
      go_loopw [24] (fun i wr => ∃ k : Nat, i = .int .i64 k ∧ k ≤ 4 ∧ Hid (AdBox wr w3.heap.size false (ab4 (ns.take k)) ∧ Below w3.heap.size w3 wr)) (fun i _ => 4 - (intOf i).toNat)
      case atStart => exact ⟨0, rfl, by omega, Lib.hid ⟨H4'.out.1, H4'.out.2.1⟩⟩
      case round =>
        obtain ⟨k, rfl, hk, hh⟩ := hrel
        by_cases hlt : k < 4
        · obtain ⟨n, hnk⟩ : ∃ n, ns[k]? = some n := ⟨_, List.getElem?_eq_getElem (by rw [HN.out.1]; omega)⟩
          have hn2 := HN.out.2 n (List.mem_of_getElem? hnk)
          have hrow := (H3.out.2.2.1.later hh.out.2 (Nat.le_refl _)).cell (iv_at hnk)
          obtain ⟨x, _, hc⟩ := hh.out.1.there k (by omega)
          have hf := hh.out.1.frozen (1 + k)
          have a3 := hh.out.1.put k (UInt8.ofNat n)
          rw [ab4_set hnk (by rw [HN.out.1]; omega)] at a3
          have hu : ((UInt8.ofNat n).toNat : Int) = n := by rw [UInt8.toNat_ofNat']; omega
          rw [hu] at a3
          have H5 := Lib.hid (And.intro a3 (hh.out.2.setCell (p := ⟨w3.heap.size, 1 + k, none⟩) (Nat.le_refl _) (.int .u8 n)))
          clear a3 hnk hu
          go_wp2_with fail
          go_roundw
          case rel => exact ⟨k + 1, by go_num, by omega, H5⟩
          case measure => simp [intOf]; omega
        · obtain rfl : k = 4 := by omega
          have hb4 : (ab4 ns).length = 16 := by simp [ab4, HN.out.1]
          have ht : ns.take 4 = ns := List.take_of_length_le (by rw [HN.out.1]; omega)
          have hA := hh.out.1
          rw [ht] at hA
          have H6 := Lib.hid (And.intro hA (And.intro hh.out.2 hb4))
          clear hA ht hb4
          go_wp2_with (first
            | (refine wpList_load_ad rfl (.tmp 7) rfl rfl H6.out.1 ?_)
            | (refine wpList_store_ad rfl (.tmp 2) (.tmp 35) rfl false (ab4 ns) rfl rfl H6.out.2.2 (H3.out.1.later H6.out.2.1 (Nat.le_refl _)) ?_; intro w5 a5 o5 z5 b5; have H5 := Lib.hid (And.intro a5 (b5 w.heap.size w (Nat.le_refl _) (H3.out.2.1.trans (H6.out.2.1.mono H3.out.2.1.size)))); clear a5 o5 z5 b5))
          exact bodyPost_ret (results_ad_tmp rfl _ rfl H5.out.1) rfl (by rw [HR.out]; exact ⟨H5.out.2, H6.out.2.2, rfl⟩)
  · have h4i : ((xs.length : Int) != 4) = true := by simpa using fun h => h4 (by omega)
    have hr : four s.data.toList = none := by
      unfold four
      rw [if_neg]
      rw [← HX.out.1, List.length_map]
      exact h4
    have HR := Lib.hid hr
    clear hr h4
    go_wp2_with (refine wpList_store_ad rfl (.tmp 2) (.tmp 15) rfl false (List.replicate 16 0) rfl rfl rfl HX.out.2.2.1 ?_; intro w5 a5 o5 z5 b5; have H5 := Lib.hid (And.intro a5 (b5 w.heap.size w (Nat.le_refl _) HX.out.2.2.2)); clear a5 o5 z5 b5)
    exact bodyPost_ret (results_ad_tmp rfl _ rfl H5.out.1) rfl (by rw [HR.out]; exact ⟨H5.out.2, rfl⟩)
end Go.Proofs.YtoagfmonfgagbaaGreatDoor
