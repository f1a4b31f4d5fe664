/-
  A message played may be written, is short enough, and is parsed as it was. No conditions.
  stockadelaw14.DnsmsgEnds answers true, whatever is handed in. Conditions: errors.errorType holds the handle of the type error; what the program's text has laid (internal/bytealg.MaxLen holds an int).
-/
import Derived.Test.YtpojiimcdknafaaGreatDoorZ48
import Derived.Test.YtpojiimcdknafaaGreatDoorZ25
import Derived.Test.YtpojiimcdknafaaGreatDoorZ44
import Derived.Test.YtpojiimcdknafaaGreatDoorZ17
import Derived.Test.YtpojiimcdknafaaGreatDoorZ23
namespace Go.Proofs.YtpojiimcdknafaaGreatDoor
open Go.RowKit
set_option maxRecDepth 100000

theorem play1_fit {r : Rc} (h : Play1 r) : fitR r ∧ r.name.length ≤ 60 ∧ r.target.length ≤ 60 ∧ (writeRB r).length ≤ 134 := by
  obtain ⟨t, ht, hp⟩ := h
  have e := hp.time
  have h1 := hp.name
  have h2 := hp.target
  have h3 := hp.data
  have hd : (dataB r).length ≤ 62 := by
    unfold dataB
    split
    · rw [List.length_take]
      have hk : r.adr.length = 16 := hp.ok
      omega
    split
    · have hw := writeB_length r.target
      split at hw <;> omega
    · omega
  have hw := writeB_length r.name
  have hq := writeQB_length r.asks
  have hr := writeRB_length r
  have hn : r.asks.name = r.name := rfl
  rw [hn] at hq
  exact ⟨⟨hp.right, hp.ok, by omega, by omega⟩, h1, h2, by split at hw <;> omega⟩
theorem playRs_len : ∀ (rs : List Rc), (∀ r ∈ rs, Play1 r) → (rsB rs).length ≤ rs.length * 134
  | [], _ => by simp [rsB]
  | r :: rs, h => by
    have h1 := (play1_fit (h r (by simp))).2.2.2
    have ih := playRs_len rs (fun x hx => h x (by simp [hx]))
    rw [rsB_cons, List.length_append, List.length_cons]
    omega
theorem playQs_len : ∀ (qs : List Qs), (∀ q ∈ qs, Play1q q) → (qsB qs).length ≤ qs.length * 66
  | [], _ => by simp [qsB]
  | q :: qs, h => by
    have h1 := (h q (by simp)).2
    have ih := playQs_len qs (fun x hx => h x (by simp [hx]))
    have h2 := writeQB_length q
    have h3 := writeB_length q.name
    rw [qsB_cons, List.length_append, List.length_cons]
    split at h3 <;> omega
theorem playM_recs {m : Ms} (h : PlayM m) : ∀ r ∈ recs m, Play1 r := fun r hr => by
  unfold recs at hr
  rcases List.mem_append.1 hr with hr | hr
  · exact h.an.2 r hr
  rcases List.mem_append.1 hr with hr | hr
  · exact h.au.2 r hr
  · exact h.ex.2 r hr
theorem play_right {m : Ms} (h : PlayM m) : rightM m ∧ (∀ r ∈ recs m, fitR r) ∧ (msgB m).length ≤ 3492 ∧ MsOk m := by
  have hr := playM_recs h
  have hl : (recs m).length ≤ 24 := by
    unfold recs
    rw [List.length_append, List.length_append]
    have := h.an.1
    have := h.au.1
    have := h.ex.1
    omega
  have hq := h.qs.1
  refine ⟨⟨⟨h.h, by unfold countM; omega⟩, fun q hq => (h.qs.2 q hq).1, fun r hx => (play1_fit (hr r hx)).1.1⟩, fun r hx => (play1_fit (hr r hx)).1, ?_, ⟨fun q hq => ?_, fun r hx => ?_⟩⟩
  · have h1 := playRs_len (recs m) hr
    have h2 := playQs_len m.qs h.qs.2
    have hh : (headL m).length = 12 := by
      unfold headL
      simp only [List.length_append, putn_length]
    unfold msgB
    rw [List.length_append, List.length_append, hh]
    omega
  · have := (h.qs.2 q hq).2
    omega
  · obtain ⟨⟨_, _, t0, t1⟩, n1, n2, _⟩ := play1_fit (hr r hx)
    exact ⟨⟨by omega, by omega⟩, t0, t1⟩
end Go.Proofs.YtpojiimcdknafaaGreatDoor

namespace Go.Proofs.YtpojiimcdknafaaGreatDoor
open Go.RowKit
set_option maxRecDepth 100000

theorem set_two {l : List UInt8} (h : 10 ≤ l.length) (a b : UInt8) : ((l.set 8 a).set 9 b).drop 8 = a :: b :: l.drop 10 := by
  apply List.ext_getElem?
  intro i
  rcases i with _ | _ | i
  · simp [List.getElem?_drop, List.getElem?_set]
    omega
  · simp [List.getElem?_drop, List.getElem?_set]
    omega
  · simp [List.getElem?_drop, List.getElem?_set]
    rw [if_neg (by omega), show 8 + (i + 1 + 1) = 10 + i by omega]
theorem num2_two {l : List UInt8} {i : Nat} {a b : UInt8} {r : List UInt8} (h : l.drop i = a :: b :: r) : num2 l i = a.toNat * 256 + b.toNat := by
  unfold num2
  rw [h]
  show be [a, b] = _
  simp [be]
theorem num_below (a : Int) {m : Nat} (h0 : 0 < m) (h1 : m ≤ 1000000) : ∃ k : Nat, k < m ∧ wrap64 ((IntKind.u64.wrap a).tmod (m : Int)) = (k : Int) := by
  have h2 : 0 ≤ IntKind.u64.wrap a := by show 0 ≤ a % 18446744073709551616; omega
  have h3 := Int.emod_nonneg (IntKind.u64.wrap a) (show (m : Int) ≠ 0 by omega)
  have h4 := Int.emod_lt_of_pos (IntKind.u64.wrap a) (show (0 : Int) < m by omega)
  rw [Int.tmod_eq_emod_of_nonneg h2]
  refine ⟨(IntKind.u64.wrap a % (m : Int)).toNat, by omega, ?_⟩
  unfold wrap64
  omega
set_option maxHeartbeats 8000000 in
theorem dnsmsgEnds {sq sa su se : Sl} {m : Ms} {A1 : Option Addr} {n1 c1 : Nat} {l1 : List UInt8} (cut nn : Int) {w : World} (hm : MsM 0 w sq sa su se m) (ha : ArgM m) (hb : Bs w A1 n1 c1 l1) (hE : Env w) (hg : Handle w) : Calls Tryz.prog 6 #[.agg (msv m.h sq sa su se), .slice A1 n1 c1, .int .i64 cut, .int .i64 nn] w fun e w' => e = .returned (.bool true) ∧ Below w.heap.size w w' := by
  have a1 := MsBox.new w m.h sq sa su se
  have b1 : Below w.heap.size w (w.alloc (.cells (msv m.h sq sa su se) 59)) := (Below.refl _ _).alloc (Nat.le_refl _) _
  obtain ⟨W, hW⟩ : ∃ W, w.alloc (.cells (msv m.h sq sa su se) 59) = W := ⟨_, rfl⟩
  rw [hW] at a1 b1
  have HW := Lib.hid hW
  have HA := Lib.hid (And.intro a1 b1)
  have HM := Lib.hid (And.intro hm ha)
  have HE := Lib.hid (And.intro hE (And.intro hg hb))
  have hlen := hb.len
  clear a1 b1 hW hm ha hE hg hb
  by_cases h100 : 100 < n1
  · --<< a
    have hd : decide ((100 : Int) < (n1 : Int)) = true := decide_eq_true (by omega)
    go_enter Tryz.func6, Tryz.ntmps6
    go_wp2_with (rw [HW.out])
    refine (awake14 (Env.later HE.out.1 HA.out.2 (Nat.le_refl _)) (Handle.later HA.out.2 (Nat.le_refl _) HE.out.2.1)).mono ?_
    rintro e w2 ⟨rfl, b2⟩
    have H2 := Lib.hid (HA.out.2.trans (b2.mono HA.out.2.size))
    clear b2
    go_wp2_with fail
    go_ret
    exact ⟨rfl, H2.out⟩
    -->>
  · have hd : decide ((100 : Int) < (n1 : Int)) = false := decide_eq_false (by omega)
    go_enter Tryz.func6, Tryz.ntmps6
    go_wp2_with (first
      | (refine wpList_load_ms rfl (.tmp 4) rfl rfl HA.out.1 ?_)
      | (rw [HW.out]))
    refine (playM_any (HM.out.1.later HA.out.2 (Nat.le_refl _)) HM.out.2).mono ?_
    rintro e w2 ⟨tq, ta, tu, te, x, rfl, hx, mx, b2⟩
    have HX := Lib.hid (play_right hx)
    have H2 := Lib.hid (And.intro (HA.out.1.later b2 (Nat.le_refl _)) (And.intro mx (HA.out.2.trans (b2.mono HA.out.2.size))))
    have hqn : tq.n ≤ 1000000000000 ∧ ta.n ≤ 1000000000000 ∧ tu.n ≤ 1000000000000 ∧ te.n ≤ 1000000000000 := by
      have y0 := mx.qs.len
      have y1 := mx.an.len
      have y2 := mx.au.len
      have y3 := mx.ex.len
      have z0 := hx.qs.1
      have z1 := hx.an.1
      have z2 := hx.au.1
      have z3 := hx.ex.1
      exact ⟨by omega, by omega, by omega, by omega⟩
    have hww := HA.out.1.lt
    clear b2 mx hx
    go_wp2_with (first
      | (refine wpList_store_ms rfl (.tmp 4) (.tmp 23) rfl x.h tq ta tu te rfl rfl H2.out.1 ?_; intro w3 a3 o3 z3 g3; have H3 := Lib.hid (And.intro a3 (And.intro (show MsM W.heap.size w3 tq ta tu te x from ⟨H2.out.2.1.qs.away fun k hk => o3 k (by omega), H2.out.2.1.an.away fun k hk => o3 k (by omega), H2.out.2.1.au.away fun k hk => o3 k (by omega), H2.out.2.1.ex.away fun k hk => o3 k (by omega)⟩) (g3 w.heap.size w (Nat.le_refl _) H2.out.2.2))); clear a3 o3 z3 g3)
      | (refine wpList_load_ms rfl (.tmp 4) rfl rfl H3.out.1 ?_))
    have KW := writeM_any H3.out.2.1 HX.out.2.2.2 hqn (Env.later HE.out.1 H3.out.2.2 (Nat.le_refl _))
    have hv : writeMv x = msgB x ∧ writeMe x = fl0 := by
      have h4 : (msgB x).length ≤ 4000 := by have := HX.out.2.2.1; omega
      unfold writeMv writeMe
      rw [if_pos ⟨HX.out.1, h4⟩, if_pos HX.out.1, if_pos h4]
      exact ⟨rfl, rfl⟩
    rw [hv.1, hv.2] at KW
    unfold WriteR at KW
    have KW := Lib.hid KW
    clear hv
    refine KW.out.mono ?_
    rintro e w4 ⟨B, bn, bc, v4, rfl, hB, t4, b4⟩
    obtain rfl := t4.none' rfl
    have hbn := hB.len
    have hb0 : bn ≤ 3492 := by have := HX.out.2.2.1; omega
    have hb12 : 12 ≤ bn := by
      have : (headL x).length = 12 := by
        unfold headL
        simp only [List.length_append, putn_length]
      rw [← hbn]
      unfold msgB
      rw [List.length_append]
      omega
    have H4 := Lib.hid (And.intro hB (H3.out.2.2.trans (b4.mono H3.out.2.2.size)))
    clear t4 b4 hB KW
    go_wp2_with fail
    refine (awake14 (Env.later HE.out.1 H4.out.2 (Nat.le_refl _)) (Handle.later H4.out.2 (Nat.le_refl _) HE.out.2.1)).mono ?_
    rintro e w5 ⟨rfl, b5⟩
    have H5 := Lib.hid (And.intro (H4.out.1.later b5 (Nat.le_refl _)) (H4.out.2.trans (b5.mono H4.out.2.size)))
    clear b5
    have hmax := h100
    go_wp2_with (first
      | (at_builtin; refine wpList_append_bs rfl (.tmp 37) (.tmp 38) 22 rfl w5.heap.size 5 info5 Tryz.underlying22 _ bn (msgB x) rfl H6.out.1 A1 n1 c1 l1 rfl (HE.out.2.2.later H6.out.2.2 (Nat.le_refl _)) (by omega) H6.out.2.1.size ?_; intro v7 w7 o7 g7 _ _; have b7 : Below w5.heap.size w5 w7 := H6.out.2.1.grown g7 H6.out.2.1.size (fun k hk => (World.ownsRow.lt H6.out.1 k hk).1); obtain ⟨A7, c7, rfl, hB7⟩ := Bs.of_own o7; have H7 := Lib.hid (And.intro hB7 (And.intro (H5.out.1.later b7 (Nat.le_refl _)) (H5.out.2.trans (b7.mono H5.out.2.size)))); clear o7 g7 b7 hB7)
      | (at_builtin; refine wpList_append_bs rfl (.const (.slice none 0 0)) (.tmp 36) 22 rfl w5.heap.size 5 info5 Tryz.underlying22 _ 0 [] rfl (World.ownsRow_nil _ _ _ _) B bn bc (msgB x) rfl H5.out.1 (by omega) (Nat.le_refl _) ?_; intro v6 w6 o6 g6 _ _; have b6 : Below w5.heap.size w5 w6 := (Below.refl _ w5).grown g6 (Nat.le_refl _) (fun q hq => by cases hq); replace o6 := owns_n (n' := bn) (by omega) o6; rw [List.nil_append] at o6; have H6 := Lib.hid (And.intro o6 (And.intro b6 (H5.out.2.trans (b6.mono H5.out.2.size)))); clear o6 g6 b6))
    have hN : (msgB x ++ l1).length = bn + n1 := by rw [List.length_append, hbn, hlen]
    have hP := back_parse HX.out.1 HX.out.2.1 hN rfl (by omega)
    rw [hbn] at hP
    have KP := parse_any H7.out.1 (by omega) (Handle.later H7.out.2.2 (Nat.le_refl _) HE.out.2.1)
    obtain ⟨P1, hP1⟩ : ∃ P1, parseM (msgB x ++ l1) (bn + n1) = P1 := ⟨_, rfl⟩
    rw [hP1] at KP hP
    have hP2 : P1.2 = if l1 = [] then fl0 else ⟨7, (bn : Int), true⟩ := by
      rw [hP]
      split <;> rfl
    have HP := Lib.hid hP2
    unfold ParseR at KP
    have KP := Lib.hid KP
    clear hP hP1 hP2 hN
    refine KP.out.mono ?_
    rintro e w8 ⟨s1, s2, s3, s4, v8, rfl, _, _, _, _, t8, b8⟩
    have H8 := Lib.hid (And.intro t8 (And.intro (H7.out.2.1.later b8 (Nat.le_refl _)) (H7.out.2.2.trans (b8.mono H7.out.2.2.size))))
    clear t8 b8 KP
    obtain ⟨k, hk, ek⟩ := num_below cut (m := bn) (by omega) (by omega)
    obtain ⟨j, hj, ej⟩ := num_below nn (m := 1000) (by omega) (by omega)
    have ej : wrap64 ((IntKind.u64.wrap nn).tmod 1000) = (j : Int) := ej
    have hkc : k ≤ bc := by have := H8.out.2.1.cap; omega
    --<< c
    go_wp2_with (first
      | (refine wpList_store_ms rfl (.tmp 11) (.tmp 41) rfl P1.1.h s1 s2 s3 s4 rfl rfl H9.out.1 ?_; intro w10 a10 o10 z10 g10; have b10 := g10 _ _ (Nat.le_refl _) H9.out.2; have H10 := Lib.hid (And.intro (H8.out.1.later b10 (Nat.le_refl _)) (And.intro (H8.out.2.1.later b10 (Nat.le_refl _)) (H8.out.2.2.trans (b10.mono H8.out.2.2.size)))); clear a10 o10 z10 g10 b10)
      | (refine wpList_alloc_ms rfl rfl ?_; intro w9 a9 b9 z9; have H9 := Lib.hid (And.intro a9 b9); clear a9 b9 z9))
    have hcut := H10.out.2.1.cut (i := 0) (k := k) (by omega) (A' := B) (fun _ => by cases B <;> simp [Addr.add]) (fun h => h)
    rw [List.drop_zero, Nat.sub_zero] at hcut
    have KP := parse_any hcut (by omega) (Handle.later H10.out.2.2 (Nat.le_refl _) HE.out.2.1)
    have hP := cut_parse HX.out.1 HX.out.2.1 (c := k) (by omega) rfl
    obtain ⟨P2, hP2⟩ : ∃ P2, parseM ((msgB x).take k) k = P2 := ⟨_, rfl⟩
    rw [hP2] at KP hP
    unfold ParseR at KP
    have KP := Lib.hid KP
    clear hP2 hcut
    refine KP.out.mono ?_
    rintro e w11 ⟨r1, r2, r3, r4, v11, rfl, _, _, _, _, t11, b11⟩
    obtain ⟨T11, x11, rfl⟩ := Tells.held' t11 hP
    have H11 := Lib.hid (And.intro (H10.out.1.later b11 (Nat.le_refl _)) (And.intro (H10.out.2.1.later b11 (Nat.le_refl _)) (H10.out.2.2.trans (b11.mono H10.out.2.2.size))))
    clear t11 b11 KP hP
    go_wp2_with (first
      | (at_builtin; refine wpList_append_bs rfl (.const (.slice none 0 0)) (.tmp 62) 22 rfl w13.heap.size 5 info5 Tryz.underlying22 _ 0 [] rfl (World.ownsRow_nil _ _ _ _) B bn bc (msgB x) rfl H13.out.2.1 (by omega) (Nat.le_refl _) ?_; intro v14 w14 o14 g14 _ _; have b14 : Below w13.heap.size w13 w14 := (Below.refl _ w13).grown g14 (Nat.le_refl _) (fun q hq => by cases hq); replace o14 := owns_n (n' := bn) (by omega) o14; rw [List.nil_append] at o14; obtain ⟨g, cap, rfl, hgb, hgl⟩ := o14.form (by omega); obtain ⟨⟨_, e8, hc8⟩, _⟩ := own_cell o14 (j := 8) (by omega); obtain ⟨⟨_, e9, hc9⟩, _⟩ := own_cell o14 (j := 9) (by omega); have H14 := Lib.hid (And.intro o14 (And.intro b14 (And.intro (H13.out.1.later b14 (Nat.le_refl _)) (H13.out.2.2.trans (b14.mono H13.out.2.2.size))))); clear o14 g14 b14)
      | (refine wpList_store_ms rfl (.tmp 13) (.tmp 55) rfl P2.1.h r1 r2 r3 r4 rfl rfl H12.out.1 ?_; intro w13 a13 o13 z13 g13; have b13 := g13 _ _ (Nat.le_refl _) H12.out.2; have H13 := Lib.hid (And.intro (H11.out.1.later b13 (Nat.le_refl _)) (And.intro (H11.out.2.1.later b13 (Nat.le_refl _)) (H11.out.2.2.trans (b13.mono H11.out.2.2.size)))); clear a13 o13 z13 g13 b13)
      | (refine wpList_alloc_ms rfl rfl ?_; intro w12 a12 b12 z12; have H12 := Lib.hid (And.intro a12 b12); clear a12 b12 z12))
    obtain ⟨p1, p2⟩ := own_put H14.out.1 H14.out.2.1 (Nat.le_refl _) 8 (.int .u8 ((65 + (j : Int)) / 256)) (UInt8.ofNat ((65 + j) / 256)) (congrArg (Value.int IntKind.u8) (by simp only [UInt8.toNat_ofNat']; omega))
    obtain ⟨p3, p4⟩ := own_put p1 p2 (Nat.le_refl _) 9 (.int .u8 ((65 + (j : Int)) % 256)) (UInt8.ofNat ((65 + j) % 256)) (congrArg (Value.int IntKind.u8) (by simp only [UInt8.toNat_ofNat']; omega))
    obtain ⟨w15, hw15⟩ : ∃ w15, (w14.setCell { block := g, off := 8 } (Value.int IntKind.u8 ((65 + (j : Int)) / 256))).setCell { block := g, off := 9 } (Value.int IntKind.u8 ((65 + (j : Int)) % 256)) = w15 := ⟨_, rfl⟩
    rw [hw15] at p3 p4 ⊢
    clear hw15 p1 p2
    obtain ⟨_, _, ee, hB15⟩ := Bs.of_own p3
    cases ee
    have hd8 : 64 < hdN (((msgB x).set 8 (UInt8.ofNat ((65 + j) / 256))).set 9 (UInt8.ofNat ((65 + j) % 256))) 4 := by
      have h := num2_two (set_two (l := msgB x) (by omega) (UInt8.ofNat ((65 + j) / 256)) (UInt8.ofNat ((65 + j) % 256)))
      unfold hdN
      rw [h]
      simp only [UInt8.toNat_ofNat']
      omega
    have b15 := H13.out.2.2.trans (p4.mono H13.out.2.2.size)
    have KP := parse_any hB15 (by omega) (Handle.later b15 (Nat.le_refl _) HE.out.2.1)
    rw [big_parse (by omega) hb12 hd8] at KP
    unfold ParseR at KP
    have KP := Lib.hid KP
    have T13 := H13.out.1.later p4 (Nat.le_refl _)
    have H15 := Lib.hid (And.intro T13 b15)
    clear p3 p4 hB15 hd8 b15 T13 e8 e9 hc8 hc9
    refine KP.out.mono ?_
    rintro e w16 ⟨q1, q2, q3, q4, v16, rfl, _, _, _, _, t16, b16⟩
    obtain ⟨T16, x16, rfl⟩ := Tells.held' t16 (by show (4 : Int) ≠ 0; decide)
    have H16 := Lib.hid (And.intro (H15.out.1.later b16 (Nat.le_refl _)) (And.intro t16 (H15.out.2.trans (b16.mono H15.out.2.size))))
    clear t16 b16 KP
    by_cases hz : n1 = 0
    · obtain rfl := hz
      have hl1 : l1 = [] := List.eq_nil_of_length_eq_zero hlen
      have e1 := H16.out.1
      rw [HP.out, if_pos hl1] at e1
      obtain rfl := e1.none' rfl
      clear e1
      go_wp2_with (first
        | (refine wpList_store_ms rfl (.tmp 16) (.tmp 76) rfl Ms.zero.h q1 q2 q3 q4 rfl rfl H17.out.1 ?_; intro w18 a18 o18 z18 g18; have b18 := g18 _ _ (Nat.le_refl _) H17.out.2; have H18 := Lib.hid (And.intro (H16.out.1.later b18 (Nat.le_refl _)) (And.intro (H16.out.2.1.later b18 (Nat.le_refl _)) (H16.out.2.2.trans (b18.mono H16.out.2.2.size)))); clear a18 o18 z18 g18 b18)
        | (refine wpList_alloc_ms rfl rfl ?_; intro w17 a17 b17 z17; have H17 := Lib.hid (And.intro a17 b17); clear a17 b17 z17))
      refine (help_at 4 4 _).mono ?_
      rintro e w21 ⟨rfl, b21⟩
      have H21 := Lib.hid (And.intro (H18.out.2.1.later b21 (Nat.le_refl _)) (H18.out.2.2.trans (b21.mono H18.out.2.2.size)))
      clear b21
      go_wp2_with fail
      refine (is_told3 H21.out.1 (Handle.later H21.out.2 (Nat.le_refl _) HE.out.2.1)).mono ?_
      rintro e w22 ⟨rfl, b22⟩
      have H22 := Lib.hid (H21.out.2.trans (b22.mono H21.out.2.size))
      clear b22
      go_wp2_with fail
      go_ret
      exact ⟨rfl, H22.out⟩
    · have hl1 : l1 ≠ [] := fun h => hz (by rw [← hlen, h]; rfl)
      have e1 := H16.out.1
      rw [HP.out, if_neg hl1] at e1
      obtain ⟨T8, x8, rfl⟩ := Tells.held' e1 (by show (7 : Int) ≠ 0; decide)
      replace H16 := Lib.hid (And.intro e1 H16.out.2)
      have hz0 : ((n1 : Int) == 0) = false := by simpa using hz
      clear e1 hl1
      go_wp2_with (first
        | (refine wpList_store_ms rfl (.tmp 16) (.tmp 76) rfl Ms.zero.h q1 q2 q3 q4 rfl rfl H17.out.1 ?_; intro w18 a18 o18 z18 g18; have b18 := g18 _ _ (Nat.le_refl _) H17.out.2; have H18 := Lib.hid (And.intro (H16.out.1.later b18 (Nat.le_refl _)) (And.intro (H16.out.2.1.later b18 (Nat.le_refl _)) (H16.out.2.2.trans (b18.mono H16.out.2.2.size)))); clear a18 o18 z18 g18 b18)
        | (refine wpList_alloc_ms rfl rfl ?_; intro w17 a17 b17 z17; have H17 := Lib.hid (And.intro a17 b17); clear a17 b17 z17))
      refine (help_at 7 bn _).mono ?_
      rintro e w19 ⟨rfl, b19⟩
      have H19 := Lib.hid (And.intro (H18.out.1.later b19 (Nat.le_refl _)) (And.intro (H18.out.2.1.later b19 (Nat.le_refl _)) (H18.out.2.2.trans (b19.mono H18.out.2.2.size))))
      clear b19
      go_wp2_with fail
      refine (is_told3 H19.out.1 (Handle.later H19.out.2.2 (Nat.le_refl _) HE.out.2.1)).mono ?_
      rintro e w20 ⟨rfl, b20⟩
      have H20 := Lib.hid (And.intro (H19.out.2.1.later b20 (Nat.le_refl _)) (H19.out.2.2.trans (b20.mono H19.out.2.2.size)))
      clear b20
      go_wp2_with fail
      refine (help_at 4 4 _).mono ?_
      rintro e w21 ⟨rfl, b21⟩
      have H21 := Lib.hid (And.intro (H20.out.1.later b21 (Nat.le_refl _)) (H20.out.2.trans (b21.mono H20.out.2.size)))
      clear b21
      go_wp2_with fail
      refine (is_told3 H21.out.1 (Handle.later H21.out.2 (Nat.le_refl _) HE.out.2.1)).mono ?_
      rintro e w22 ⟨rfl, b22⟩
      have H22 := Lib.hid (H21.out.2.trans (b22.mono H21.out.2.size))
      clear b22
      go_wp2_with fail
      go_ret
      exact ⟨rfl, H22.out⟩
    -->>
end Go.Proofs.YtpojiimcdknafaaGreatDoor
