/-
  Package chain's has, addresses. Conditions: those of the slices; a million of them at most.
-/
import Derived.Test.YtjbdaeiefckkcaaCh15
import Derived.IntWalk
namespace Go.Proofs.Ytjbdaeiefckkcaa
open Go.RowKit
set_option maxRecDepth 100000

def sameAd (v : Bool) (a : List UInt8) (f : Fo) : Bool := (f.v6 == v) && (f.adr == a)
def hasv (fs : List Fo) (v : Bool) (a : List UInt8) : Bool := fs.any (sameAd v a)
def fstep (s : ByteArray) (left : Int) (fs : List Fo) (r : Rk) : List Fo := if says r s && !(hasv fs r.v6 r.adr) then fs ++ [⟨r.v6, r.adr, min left r.ttl⟩] else fs
def foundv (xs : List Rk) (s : ByteArray) (left : Int) : List Fo := xs.foldl (fstep s left) []
theorem foundv_next {xs : List Rk} {k : Nat} {x : Rk} (h : xs[k]? = some x) (s : ByteArray) (left : Int) : foundv (xs.take (k + 1)) s left = fstep s left (foundv (xs.take k) s left) x := by
  unfold foundv
  rw [List.take_add_one, h, List.foldl_append]
  rfl
theorem fstep_len (s : ByteArray) (left : Int) (fs : List Fo) (r : Rk) : (fstep s left fs r).length ≤ fs.length + 1 := by
  unfold fstep
  split <;> simp
theorem fstep_no {s : ByteArray} {left : Int} {fs : List Fo} {r : Rk} (h : says r s = false ∨ hasv fs r.v6 r.adr = true) : fstep s left fs r = fs := by
  unfold fstep
  rcases h with h | h <;> simp [h]
theorem fstep_yes {s : ByteArray} {left : Int} {fs : List Fo} {r : Rk} (h1 : says r s = true) (h2 : hasv fs r.v6 r.adr = false) : fstep s left fs r = fs ++ [⟨r.v6, r.adr, min left r.ttl⟩] := by
  unfold fstep
  simp [h1, h2]
theorem says_tell (r : Rk) (s : ByteArray) : says r s = (decide (r.name = s) && (tellv r == 2)) := by unfold says; rw [tell_two]
--<< has1
set_option maxHeartbeats 1000000 in
theorem has1_any {f : Fo} (hk : f.ok) {g : Nat} {v : Bool} {a : List UInt8} {w : World} (hg : AdBox w g v a) : Calls Try.prog 23 #[.agg (fov f), .pointer (some ⟨g, 0, none⟩)] w fun e w' => e = .returned (.bool (sameAd v a f)) ∧ Below w.heap.size w w' := by
  have a1 := FoBox.new w hk
  have b1 : Below w.heap.size w (w.alloc (.cells (fov f) 44)) := (Below.refl _ _).alloc (Nat.le_refl _) _
  obtain ⟨W, hW⟩ : ∃ W, w.alloc (.cells (fov f) 44) = W := ⟨_, rfl⟩
  rw [hW] at a1 b1
  have e1 := hg.later b1 (Nat.le_refl _)
  have e2 : W.rangeAt g 0 (adv v a).toList := fun j u hj => by
    rw [cell_of_row W g (0 + j) _ _ _ e1.1, Nat.zero_add, ← Array.getElem?_toList]; exact hj
  have heq := eql_adk f.v6 v hk hg.2
  have HA := Lib.hid (And.intro a1 b1)
  have HW := Lib.hid hW
  have HK := Lib.hid (And.intro hk hg.2)
  have HR := Lib.hid (And.intro a1.adrR e2)
  clear a1 b1 hW hk hg e1 e2
  unfold sameAd
  go_enter Try.func23, Try.ntmps23
  go_wp2_with (first
    | (refine wpList_load_adr rfl (.tmp 4) rfl rfl HK.out.1 HR.out.1 ?_)
    | (refine wpList_load_adr rfl (.tmp 1) rfl rfl HK.out.2 HR.out.2 ?_)
    | (rw [HW.out]))
  go_ret
  exact ⟨rfl, HA.out.2⟩
-->>
--<< hasI
set_option maxHeartbeats 2000000 in
theorem indexF_any {A : Option Addr} {n c : Nat} {xs : List Fo} {w : World} (hb : Fos w A n c xs) {g : Nat} {v : Bool} {a : List UInt8} (hg : AdBox w g v a) : Calls Try.prog 24 #[.slice A n c, .func (.func 23) #[] #[.pointer (some ⟨g, 0, none⟩)]] w fun e w' =>
    ∃ r : Int, e = .returned (.int .i64 r) ∧ decide (0 ≤ r) = hasv xs v a ∧ Below w.heap.size w w' := by
  have hcap := hb.cap
  have hmax := hb.max
  unfold maxLen at hmax
  have hlen := hb.len
  have HB := Lib.hid (And.intro hb hg)
  clear hb hg
  go_enter Try.func24, Try.ntmps24
  go_wp2_with fail
  go_loopw [8] (fun i wr => ∃ k : Nat, k ≤ n ∧ i = .int .i64 k ∧ (∀ (j : Nat) (x : Fo), j < k → xs[j]? = some x → sameAd v a x = false) ∧ Below w.heap.size w wr) (fun i _ => n - (intOf i).toNat)
  case atStart => exact ⟨0, Nat.zero_le _, rfl, fun j x h => absurd h (by omega), Below.refl _ _⟩
  case round =>
    obtain ⟨k, hk, rfl, hall, hbe⟩ := hrel
    by_cases hkn : k < n
    · obtain ⟨x, hxk⟩ : ∃ x, xs[k]? = some x := ⟨xs[k]'(by omega), List.getElem?_eq_getElem _⟩
      obtain ⟨b, off, rfl, hr⟩ := (HB.out.1.later hbe (Nat.le_refl _)).here k x hxk
      have hok := HB.out.1.ok x (List.mem_of_getElem? hxk)
      have K := Lib.hid (has1_any hok (HB.out.2.later hbe (Nat.le_refl _)))
      have HX := Lib.hid (And.intro hxk (And.intro hall hbe))
      have HR := Lib.hid (And.intro hr hok)
      clear hxk hall hbe hr hok
      cases hs : sameAd v a x with
      | false =>
        have HS := Lib.hid hs
        rw [hs] at K
        clear hs
        go_wp2_with (refine wpList_load_fo rfl (.tmp 14) rfl rfl HR.out.2 HR.out.1 ?_)
        refine K.out.mono ?_
        rintro e w' ⟨rfl, hw⟩
        have HW := Lib.hid (HX.out.2.2.trans (hw.mono HX.out.2.2.size))
        clear hw
        go_wp2_with fail
        refine ⟨⟨k + 1, hkn, by go_num, fun j y hj hy => ?_, HW.out⟩, by simp [intOf]; omega⟩
        by_cases hjk : j = k
        · subst hjk
          rw [HX.out.1] at hy
          obtain rfl := Option.some.inj hy
          exact HS.out
        · exact HX.out.2.1 j y (by omega) hy
      | true =>
        have HS := Lib.hid hs
        rw [hs] at K
        clear hs
        go_wp2_with (refine wpList_load_fo rfl (.tmp 14) rfl rfl HR.out.2 HR.out.1 ?_)
        refine K.out.mono ?_
        rintro e w' ⟨rfl, hw⟩
        have HW := Lib.hid (HX.out.2.2.trans (hw.mono HX.out.2.2.size))
        clear hw
        go_wp2_with fail
        go_ret
        refine ⟨k, rfl, ?_, HW.out⟩
        rw [decide_eq_true (show (0 : Int) ≤ (k : Int) by omega)]
        exact (List.any_eq_true.2 ⟨x, List.mem_of_getElem? HX.out.1, HS.out⟩).symm
    · obtain rfl : k = n := by omega
      have HX := Lib.hid (And.intro hall hbe)
      clear hall hbe
      go_wp2_with fail
      go_ret
      refine ⟨-1, rfl, ?_, HX.out.2⟩
      rw [decide_eq_false (by decide)]
      refine (List.any_eq_false.2 fun x hm => ?_).symm
      obtain ⟨j, hj⟩ := List.mem_iff_getElem?.1 hm
      rw [HX.out.1 j x (by have := (List.getElem?_eq_some_iff.1 hj).1; omega) hj]
      decide
theorem contF_any {A : Option Addr} {n c : Nat} {xs : List Fo} {w : World} (hb : Fos w A n c xs) {g : Nat} {v : Bool} {a : List UInt8} (hg : AdBox w g v a) : Calls Try.prog 22 #[.slice A n c, .func (.func 23) #[] #[.pointer (some ⟨g, 0, none⟩)]] w fun e w' =>
    e = .returned (.bool (hasv xs v a)) ∧ Below w.heap.size w w' := by
  have K := Lib.hid (indexF_any hb hg)
  clear hb hg
  generalize hasv xs v a = d at K ⊢
  go_enter Try.func22, Try.ntmps22
  go_wp2_with fail
  refine K.out.mono ?_
  rintro e w' ⟨r, rfl, hr, hw⟩
  subst hr
  have HW := Lib.hid hw
  clear hw
  go_wp2_with fail
  go_ret
  exact ⟨rfl, HW.out⟩
theorem has_any {A : Option Addr} {n c : Nat} {xs : List Fo} {w : World} (hb : Fos w A n c xs) (v : Bool) {a : List UInt8} (ha : a.length = 16) : Calls Try.prog 18 #[.slice A n c, .agg (adv v a)] w fun e w' =>
    e = .returned (.bool (hasv xs v a)) ∧ Below w.heap.size w w' := by
  have a1 := AdBox.new w v ha
  have b1 : Below w.heap.size w (w.alloc (.cells (adv v a) 29)) := (Below.refl _ _).alloc (Nat.le_refl _) _
  obtain ⟨W, hW⟩ : ∃ W, w.alloc (.cells (adv v a) 29) = W := ⟨_, rfl⟩
  rw [hW] at a1 b1
  have K := Lib.hid (contF_any (hb.later b1 (Nat.le_refl _)) a1)
  have HA := Lib.hid b1
  have HW := Lib.hid hW
  have hmf : ∀ (fn : Fn) (first cap : Array Value) (w : World), (Instr.makeFunc fn first cap).run Try.prog w = .ok (.func fn first cap) w := fun _ _ _ _ => rfl
  clear a1 b1 hW hb ha
  generalize hasv xs v a = d at K ⊢
  go_enter Try.func18, Try.ntmps18
  go_wp2_with (rw [HW.out])
  refine K.out.mono ?_
  rintro e w' ⟨rfl, hw⟩
  have HW2 := Lib.hid (HA.out.trans (hw.mono HA.out.size))
  clear hw
  go_wp2_with fail
  go_ret
  exact ⟨rfl, HW2.out⟩
-->>
--<< adr
set_option maxHeartbeats 4000000 in
theorem addresses_any {A : Option Addr} {n c : Nat} {xs : List Rk} {w : World} (hb : Rks w A n c xs) (hn : n ≤ 1000000) (s : ByteArray) (left : Int) : Calls Try.prog 12 #[.slice A n c, .string s, .int .u32 left] w fun e w' =>
    ∃ B m d, e = .returned (.slice B m d) ∧ Fos w' B m d (foundv xs s left) ∧ Below w.heap.size w w' := by
  have hcap := hb.cap
  have hmax := hb.max
  unfold maxLen at hmax
  have hlen := hb.len
  have HB := Lib.hid hb
  clear hb
  go_enter Try.func12, Try.ntmps12
  go_wp2_with fail
  go_loopw [7, 12] (fun v i wr => ∃ k : Nat, k ≤ n ∧ i = .int .i64 k ∧ FoO wr w.heap.size v (foundv (xs.take k) s left) ∧ (foundv (xs.take k) s left).length ≤ k ∧ Below w.heap.size w wr) (fun _ i _ => n - (intOf i).toNat)
  case atStart => exact ⟨0, Nat.zero_le _, rfl, FoO.nil _ _, Nat.zero_le _, Below.refl _ _⟩
  case round =>
    obtain ⟨k, hk, rfl, ho, hfl, hbe⟩ := hrel
    by_cases hkn : k < n
    · obtain ⟨x, hxk⟩ : ∃ x, xs[k]? = some x := ⟨xs[k]'(by omega), List.getElem?_eq_getElem _⟩
      obtain ⟨b, off, rfl, hr⟩ := (HB.out.later hbe (Nat.le_refl _)).here k x hxk
      have hok := HB.out.ok x (List.mem_of_getElem? hxk)
      have hnx := foundv_next hxk s left
      obtain ⟨fs, hfs⟩ : ∃ fs, foundv (xs.take k) s left = fs := ⟨_, rfl⟩
      rw [hfs] at ho hfl hnx
      have hd := str_dec x.name s
      have hsy := says_tell x s
      have hl1 := fstep_len s left fs x
      have HX := Lib.hid (And.intro hbe (And.intro hr hok))
      have HO := Lib.hid (And.intro ho (And.intro hfl hfs))
      have HN := Lib.hid (And.intro hnx hl1)
      clear hxk ho hfl hfs hbe hr hok hnx hl1
      by_cases h1 : x.name = s
      · rw [decide_eq_true h1] at hd hsy
        rw [Bool.true_and] at hsy
        have HS := Lib.hid hsy
        obtain ⟨q, hq⟩ : ∃ q, tellv x = q := ⟨_, rfl⟩
        have HQ := Lib.hid hq
        clear h1 hsy hq
        cases h2 : (q == 2) with
        | false =>
          go_wp2_with (first | (refine wpList_load_rk rfl (.tmp 14) rfl rfl HX.out.2.2 HX.out.2.1 ?_) | (refine wpList_alloc_rk rfl rfl ?_; intro w1 a1 b1 s1; refine wpList_store_rk rfl (.tmp 9) (.tmp 15) rfl x rfl rfl HX.out.2.2 a1 ?_; intro w2 a2 _ s2 t2; have HW2 := Lib.hid (And.intro a2 (And.intro (t2 _ _ (Nat.le_refl _) b1) (Eq.trans s2 s1))); have e0 := a2.name; clear a1 b1 a2 t2) | (refine wpList_wantd (by rfl) (wp_load_rk (.tmp 9) rfl rfl HX.out.2.2 HW2.out.1.range ?_)))
          refine (tells_any HX.out.2.2 _).mono ?_
          rintro e w3 ⟨rfl, hb3⟩
          rw [HQ.out]
          have HW3 := Lib.hid (HW2.out.2.1.trans (hb3.mono HW2.out.2.1.size))
          clear hb3
          have HSF : says x s = false := by rw [HS.out, HQ.out]; exact h2
          have HSG := Lib.hid HSF
          clear HSF
          go_wp2_with fail
          refine ⟨⟨k + 1, hkn, by go_num, ?_, ?_, HX.out.1.trans (HW3.out.mono HX.out.1.size)⟩, by simp [intOf]; omega⟩
          · rw [HN.out.1, fstep_no (.inl HSG.out)]
            exact HO.out.1.later HW3.out
          · rw [HN.out.1]; have := HN.out.2; have := HO.out.2.1; omega
        | true =>
          have HSF : says x s = true := by rw [HS.out, HQ.out]; exact h2
          have HSG := Lib.hid HSF
          clear HSF
          obtain ⟨B, d, rfl, hS⟩ := Fos.of_own HO.out.1
          have HSS := Lib.hid hS
          clear hS
          cases h3 : hasv fs x.v6 x.adr with
          | true =>
            have H3 := Lib.hid h3
            clear h3
            go_wp2_with (first | (refine wpList_load_rk rfl (.tmp 14) rfl rfl HX.out.2.2 HX.out.2.1 ?_) | (refine wpList_alloc_rk rfl rfl ?_; intro w1 a1 b1 s1; refine wpList_store_rk rfl (.tmp 9) (.tmp 15) rfl x rfl rfl HX.out.2.2 a1 ?_; intro w2 a2 _ s2 t2; have HW2 := Lib.hid (And.intro a2 (And.intro (t2 _ _ (Nat.le_refl _) b1) (Eq.trans s2 s1))); have e0 := a2.name; clear a1 b1 a2 t2) | (refine wpList_wantd (by rfl) (wp_load_rk (.tmp 9) rfl rfl HX.out.2.2 HW2.out.1.range ?_)))
            refine (tells_any HX.out.2.2 _).mono ?_
            rintro e w3 ⟨rfl, hb3⟩
            rw [HQ.out]
            have HW3 := Lib.hid (And.intro (HW2.out.2.1.trans (hb3.mono HW2.out.2.1.size)) (HW2.out.1.later hb3 (Nat.le_refl _)))
            clear hb3
            go_wp2_with (refine wpList_wantd (by rfl) (wp_load_adr (.tmp 27) rfl rfl HX.out.2.2.1 HW3.out.2.adrR ?_))
            refine (has_any (HSS.out.later HW3.out.1 (Nat.le_refl _)) x.v6 HX.out.2.2.1).mono ?_
            rintro e w4 ⟨rfl, hb4⟩
            rw [H3.out]
            have HW4 := Lib.hid (HW3.out.1.trans (hb4.mono HW3.out.1.size))
            clear hb4
            go_wp2_with fail
            refine ⟨⟨k + 1, hkn, by go_num, ?_, ?_, HX.out.1.trans (HW4.out.mono HX.out.1.size)⟩, by simp [intOf]; omega⟩
            · rw [HN.out.1, fstep_no (.inr H3.out)]
              exact HO.out.1.later HW4.out
            · rw [HN.out.1]; have := HN.out.2; have := HO.out.2.1; omega
          | false =>
            have H3 := Lib.hid h3
            clear h3
            go_wp2_with (first | (refine wpList_load_rk rfl (.tmp 14) rfl rfl HX.out.2.2 HX.out.2.1 ?_) | (refine wpList_alloc_rk rfl rfl ?_; intro w1 a1 b1 s1; refine wpList_store_rk rfl (.tmp 9) (.tmp 15) rfl x rfl rfl HX.out.2.2 a1 ?_; intro w2 a2 _ s2 t2; have HW2 := Lib.hid (And.intro a2 (And.intro (t2 _ _ (Nat.le_refl _) b1) (Eq.trans s2 s1))); have e0 := a2.name; clear a1 b1 a2 t2) | (refine wpList_wantd (by rfl) (wp_load_rk (.tmp 9) rfl rfl HX.out.2.2 HW2.out.1.range ?_)))
            refine (tells_any HX.out.2.2 _).mono ?_
            rintro e w3 ⟨rfl, hb3⟩
            rw [HQ.out]
            have HW3 := Lib.hid (And.intro (HW2.out.2.1.trans (hb3.mono HW2.out.2.1.size)) (HW2.out.1.later hb3 (Nat.le_refl _)))
            clear hb3
            go_wp2_with (refine wpList_wantd (by rfl) (wp_load_adr (.tmp 27) rfl rfl HX.out.2.2.1 HW3.out.2.adrR ?_))
            refine (has_any (HSS.out.later HW3.out.1 (Nat.le_refl _)) x.v6 HX.out.2.2.1).mono ?_
            rintro e w4 ⟨rfl, hb4⟩
            rw [H3.out]
            have hbx := HW3.out.2.later hb4 (Nat.le_refl _)
            have e3 := hbx.ttl
            have HW4 := Lib.hid (And.intro (HW3.out.1.trans (hb4.mono HW3.out.1.size)) hbx)
            clear hb4 hbx
            by_cases hlt : x.ttl < left
            · obtain ⟨f, hf⟩ : ∃ f : Fo, f = ⟨x.v6, x.adr, x.ttl⟩ := ⟨_, rfl⟩
              have hfk : f.ok := by rw [hf]; exact HX.out.2.2.1
              have f1 : Value.agg (adv x.v6 x.adr) = .agg (adv f.v6 f.adr) := by rw [hf]
              have f2 : Value.int .u32 x.ttl = .int .u32 f.ttl := by rw [hf]
              have hff : fstep s left fs x = fs ++ [f] := by rw [fstep_yes HSG.out H3.out, hf, Int.min_eq_right (by omega)]
              have HF := Lib.hid (And.intro hfk (And.intro f1 (And.intro f2 hff)))
              clear hf hfk f1 f2 hff
              go_wp2_with (first
                | (refine wpList_load_adr rfl (.tmp 33) rfl rfl HX.out.2.2.1 HW4.out.2.adrR ?_)
                | (refine wpList_build_fo rfl (.tmp 34) (.tmp 38) rfl f HF.out.1 HF.out.2.1 HF.out.2.2.1 ?_)
                | (refine wpList_one15 rfl 35 44 (.tmp 39) rfl (fov f) rfl infoFo (fov_size HF.out.1) (by decide) (by decide) Try.underlying35 ?_; have H5 := Lib.hid (And.intro (FoBox.new w4 HF.out.1) (And.intro ((HO.out.1.later HW4.out.1).later ((Below.refl _ _).alloc (Nat.le_refl _) (.cells (fov f) 44))) ((HX.out.1.trans (HW4.out.1.mono HX.out.1.size)).trans ((Below.refl _ w4).alloc (Nat.le_trans HX.out.1.size HW4.out.1.size) (.cells (fov f) 44))))); generalize w4.alloc (.cells (fov f) 44) = w5 at H5 ⊢)
                | (refine wpList_push_fo rfl (.tmp 32) (.tmp 40) rfl w.heap.size _ fs rfl H5.out.2.1 rfl H5.out.1 (by have := HO.out.2.1; omega) H5.out.2.2.size ?_; intro v6 w6 o6 g6; have H6 := Lib.hid (And.intro o6 (H5.out.2.2.grown g6 H5.out.2.2.size (fun x hx => (World.ownsRow.lt H5.out.2.1.1 x hx).1))); clear o6 g6))
              refine ⟨⟨k + 1, hkn, by go_num, ?_, ?_, H6.out.2⟩, by simp [intOf]; omega⟩
              · rw [HN.out.1, HF.out.2.2.2]
                exact H6.out.1
              · rw [HN.out.1]; have := HN.out.2; have := HO.out.2.1; omega
            · obtain ⟨f, hf⟩ : ∃ f : Fo, f = ⟨x.v6, x.adr, left⟩ := ⟨_, rfl⟩
              have hfk : f.ok := by rw [hf]; exact HX.out.2.2.1
              have f1 : Value.agg (adv x.v6 x.adr) = .agg (adv f.v6 f.adr) := by rw [hf]
              have f2 : Value.int .u32 left = .int .u32 f.ttl := by rw [hf]
              have hff : fstep s left fs x = fs ++ [f] := by rw [fstep_yes HSG.out H3.out, hf, Int.min_eq_left (by omega)]
              have HF := Lib.hid (And.intro hfk (And.intro f1 (And.intro f2 hff)))
              clear hf hfk f1 f2 hff
              go_wp2_with (first
                | (refine wpList_load_adr rfl (.tmp 33) rfl rfl HX.out.2.2.1 HW4.out.2.adrR ?_)
                | (refine wpList_build_fo rfl (.tmp 34) (.tmp 38) rfl f HF.out.1 HF.out.2.1 HF.out.2.2.1 ?_)
                | (refine wpList_one15 rfl 35 44 (.tmp 39) rfl (fov f) rfl infoFo (fov_size HF.out.1) (by decide) (by decide) Try.underlying35 ?_; have H5 := Lib.hid (And.intro (FoBox.new w4 HF.out.1) (And.intro ((HO.out.1.later HW4.out.1).later ((Below.refl _ _).alloc (Nat.le_refl _) (.cells (fov f) 44))) ((HX.out.1.trans (HW4.out.1.mono HX.out.1.size)).trans ((Below.refl _ w4).alloc (Nat.le_trans HX.out.1.size HW4.out.1.size) (.cells (fov f) 44))))); generalize w4.alloc (.cells (fov f) 44) = w5 at H5 ⊢)
                | (refine wpList_push_fo rfl (.tmp 32) (.tmp 40) rfl w.heap.size _ fs rfl H5.out.2.1 rfl H5.out.1 (by have := HO.out.2.1; omega) H5.out.2.2.size ?_; intro v6 w6 o6 g6; have H6 := Lib.hid (And.intro o6 (H5.out.2.2.grown g6 H5.out.2.2.size (fun x hx => (World.ownsRow.lt H5.out.2.1.1 x hx).1))); clear o6 g6))
              refine ⟨⟨k + 1, hkn, by go_num, ?_, ?_, H6.out.2⟩, by simp [intOf]; omega⟩
              · rw [HN.out.1, HF.out.2.2.2]
                exact H6.out.1
              · rw [HN.out.1]; have := HN.out.2; have := HO.out.2.1; omega
      · rw [decide_eq_false h1] at hd hsy
        rw [Bool.false_and] at hsy
        have HS := Lib.hid hsy
        clear h1 hsy
        go_wp2_with (first | (refine wpList_load_rk rfl (.tmp 14) rfl rfl HX.out.2.2 HX.out.2.1 ?_) | (refine wpList_alloc_rk rfl rfl ?_; intro w1 a1 b1 s1; refine wpList_store_rk rfl (.tmp 9) (.tmp 15) rfl x rfl rfl HX.out.2.2 a1 ?_; intro w2 a2 _ s2 t2; have HW2 := Lib.hid (And.intro a2 (And.intro (t2 _ _ (Nat.le_refl _) b1) (Eq.trans s2 s1))); have e0 := a2.name; clear a1 b1 a2 t2))
        refine ⟨⟨k + 1, hkn, by go_num, ?_, ?_, HX.out.1.trans (HW2.out.2.1.mono HX.out.1.size)⟩, by simp [intOf]; omega⟩
        · rw [HN.out.1, fstep_no (.inl HS.out)]
          exact HO.out.1.later HW2.out.2.1
        · rw [HN.out.1]; have := HN.out.2; have := HO.out.2.1; omega
    · obtain rfl : k = n := by omega
      rw [List.take_of_length_le (by omega)] at ho
      obtain ⟨B, d, rfl, hS⟩ := Fos.of_own ho
      have HX := Lib.hid (And.intro hS hbe)
      clear ho hfl hbe hS
      go_wp2_with fail
      go_ret
      exact ⟨_, _, _, rfl, HX.out.1, HX.out.2⟩
-->>
end Go.Proofs.Ytjbdaeiefckkcaa
