/-
  A message played may be written, is short enough, and is parsed as it was. No conditions.
  A message loaded behind a guard; stockadehelp.Code at what is told; what is parsed may be written as far as its length goes; numbers below. Conditions: errors.errorType holds the handle of the type error.
  stockadelaw14.DnsmsgBack answers true, whatever is handed in. Conditions: errors.errorType holds the handle of the type error; what the program's text has laid (internal/bytealg.MaxLen holds an int).
-/
import Derived.Test.YtepenemhidhdpaaGreatDoorZ48
import Derived.Test.YtepenemhidhdpaaGreatDoorZ25
import Derived.Test.YtepenemhidhdpaaGreatDoorZ44
import Derived.Test.YtepenemhidhdpaaGreatDoorZ17
import Derived.Test.YtepenemhidhdpaaGreatDoorZ23
import Derived.Test.YtepenemhidhdpaaGreatDoorZ16
namespace Go.Proofs.YtepenemhidhdpaaGreatDoor
open Go.RowKit
set_option maxRecDepth 100000

theorem play1_fit {r : Rc} (h : Play1 r) : fitR r ∧ r.name.length ≤ 60 ∧ r.target.length ≤ 60 ∧ (writeRB r).length ≤ 134 := by
  obtain ⟨t, ht, hp⟩ := h
  have e := hp.time
  have h1 := hp.name
  have h2 := hp.target
  have h3 := hp.data
  have hd : (dataB r).length ≤ 62 := by
    unfold dataB
    split
    · rw [List.length_take]
      have hk : r.adr.length = 16 := hp.ok
      omega
    split
    · have hw := writeB_length r.target
      split at hw <;> omega
    · omega
  have hw := writeB_length r.name
  have hq := writeQB_length r.asks
  have hr := writeRB_length r
  have hn : r.asks.name = r.name := rfl
  rw [hn] at hq
  exact ⟨⟨hp.right, hp.ok, by omega, by omega⟩, h1, h2, by split at hw <;> omega⟩
theorem playRs_len : ∀ (rs : List Rc), (∀ r ∈ rs, Play1 r) → (rsB rs).length ≤ rs.length * 134
  | [], _ => by simp [rsB]
  | r :: rs, h => by
    have h1 := (play1_fit (h r (by simp))).2.2.2
    have ih := playRs_len rs (fun x hx => h x (by simp [hx]))
    rw [rsB_cons, List.length_append, List.length_cons]
    omega
theorem playQs_len : ∀ (qs : List Qs), (∀ q ∈ qs, Play1q q) → (qsB qs).length ≤ qs.length * 66
  | [], _ => by simp [qsB]
  | q :: qs, h => by
    have h1 := (h q (by simp)).2
    have ih := playQs_len qs (fun x hx => h x (by simp [hx]))
    have h2 := writeQB_length q
    have h3 := writeB_length q.name
    rw [qsB_cons, List.length_append, List.length_cons]
    split at h3 <;> omega
theorem playM_recs {m : Ms} (h : PlayM m) : ∀ r ∈ recs m, Play1 r := fun r hr => by
  unfold recs at hr
  rcases List.mem_append.1 hr with hr | hr
  · exact h.an.2 r hr
  rcases List.mem_append.1 hr with hr | hr
  · exact h.au.2 r hr
  · exact h.ex.2 r hr
theorem play_right {m : Ms} (h : PlayM m) : rightM m ∧ (∀ r ∈ recs m, fitR r) ∧ (msgB m).length ≤ 3492 ∧ MsOk m := by
  have hr := playM_recs h
  have hl : (recs m).length ≤ 24 := by
    unfold recs
    rw [List.length_append, List.length_append]
    have := h.an.1
    have := h.au.1
    have := h.ex.1
    omega
  have hq := h.qs.1
  refine ⟨⟨⟨h.h, by unfold countM; omega⟩, fun q hq => (h.qs.2 q hq).1, fun r hx => (play1_fit (hr r hx)).1.1⟩, fun r hx => (play1_fit (hr r hx)).1, ?_, ⟨fun q hq => ?_, fun r hx => ?_⟩⟩
  · have h1 := playRs_len (recs m) hr
    have h2 := playQs_len m.qs h.qs.2
    have hh : (headL m).length = 12 := by
      unfold headL
      simp only [List.length_append, putn_length]
    unfold msgB
    rw [List.length_append, List.length_append, hh]
    omega
  · have := (h.qs.2 q hq).2
    omega
  · obtain ⟨⟨_, _, t0, t1⟩, n1, n2, _⟩ := play1_fit (hr r hx)
    exact ⟨⟨by omega, by omega⟩, t0, t1⟩
end Go.Proofs.YtepenemhidhdpaaGreatDoor

namespace Go.Proofs.YtepenemhidhdpaaGreatDoor
open Go.RowKit
set_option maxRecDepth 100000

theorem rc_data_at {w : World} {b o : Nat} {r : Rc} {B : Option Addr} {k m : Nat} (hk : r.ok) (h : w.rangeAt b o (rcv r B k m).toList) : w.cell? ⟨b, o + 22, none⟩ = some (.slice B k m) := h 22 _ (by
  obtain ⟨_, _, _, _, _, _, _, _, _, _, _, _, _, _, _, _, e1⟩ := ex16 hk
  rw [rcv_list, e1]; rfl)
theorem wp_load_msg {o : Oper} {a : Act} {w : World} {K : Act → World → Prop} {Q : Exit → Act → World → Prop} (x : Operand) (ho : o.op = .load 26 x) {g : Nat} {mh : Mh} {sq sa su se : Sl} (hx : a.eval x = .pointer (some ⟨g, 0, none⟩)) (hA : MsBox w g mh sq sa su se)
    (h : K (a.put o.dst (.agg (msv mh sq sa su se))) w) : o.wp Tryz.prog a w K Q :=
  wp_load_mid (P := Tryz.prog) 26 x ho g 0 hx (msv mh sq sa su se).toList _ hA.range Tryz.underlying26 rfl (by simpa using ms_size mh sq sa su se) (by simpa using h)
theorem code_told {v : Value} {f : Fl} {w : World} (h : Tells w v f) (hc : f.code ≠ 0) (hg : Handle w) : Calls Tryz.prog 19 #[v] w fun e w' => e = .returned (.int .i64 f.code) ∧ Below w.heap.size w w' := by
  rcases h with ⟨h0, _⟩ | ⟨_, d, fs, hf, _⟩
  · exact absurd h0 hc
  · have hb : Below w.heap.size w (w.alloc (.cells #[.int .i64 0] 34)) := (Below.refl _ _).alloc (Nat.le_refl _) _
    have k3 := (As_E (hf.later hb (Nat.le_refl _)).chain (hg.later hb (Nat.le_refl _)) (t := ⟨w.heap.size, 0, none⟩) (old := .int .i64 0) (by simp) (by simp)).mono (R' := fun e w' => e = .returned (.bool true) ∧ Below w.heap.size w w' ∧ w'.cell? ⟨w.heap.size, 0, none⟩ = some (.int .i64 f.code)) (by
      rintro e w' ⟨he, w1, h1, rfl⟩
      refine ⟨he, (hb.trans (h1.mono hb.size)).setCell (p := ⟨w.heap.size, 0, none⟩) (Nat.le_refl _) _, ?_⟩
      exact World.cell?_setCell_same' _ _ _ (by rw [h1.cell (p := ⟨w.heap.size, 0, none⟩) (by simp)]; simp))
    have K3 := Lib.hid k3
    clear k3 hb hf hg hc
    go_enter Tryz.func19, Tryz.ntmps19
    go_wp2_with fail
    refine K3.out.mono ?_
    rintro e w1 ⟨rfl, b1, c1⟩
    have H1 := Lib.hid b1
    clear b1
    go_wp2_with fail
    go_ret
    exact ⟨rfl, H1.out⟩
/-- What is parsed may be written, as far as its length goes. -/
theorem ok_of_right {m : Ms} (h : rightM m) (h2 : ∀ r ∈ recs m, fitR r) : MsOk m :=
  ⟨fun q hq => by have := right_len (h.2.1 q hq).1; omega, fun r hr => by
    have h3 := h2 r hr
    have h4 := right_len h3.1.1.1
    have h5 := right_len h3.1.2.2.1
    exact ⟨⟨by have e : r.asks.name = r.name := rfl; rw [e] at h4; omega, by omega⟩, h3.2.2⟩⟩
theorem num_below (a : Int) {m : Nat} (h0 : 0 < m) (h1 : m ≤ 1000000) : ∃ k : Nat, k < m ∧ wrap64 ((IntKind.u64.wrap a).tmod (m : Int)) = (k : Int) := by
  have h2 : 0 ≤ IntKind.u64.wrap a := by show 0 ≤ a % 18446744073709551616; omega
  have h3 := Int.emod_nonneg (IntKind.u64.wrap a) (show (m : Int) ≠ 0 by omega)
  have h4 := Int.emod_lt_of_pos (IntKind.u64.wrap a) (show (0 : Int) < m by omega)
  rw [Int.tmod_eq_emod_of_nonneg h2]
  refine ⟨(IntKind.u64.wrap a % (m : Int)).toNat, by omega, ?_⟩
  unfold wrap64
  omega
end Go.Proofs.YtepenemhidhdpaaGreatDoor

namespace Go.Proofs.YtepenemhidhdpaaGreatDoor
open Go.RowKit
set_option maxRecDepth 100000

set_option maxHeartbeats 16000000 in
theorem dnsmsgBack {sq sa su se : Sl} {m : Ms} {A1 : Option Addr} {n1 c1 : Nat} {l1 : List UInt8} {w : World} (hm : MsM 0 w sq sa su se m) (ha : ArgM m) (hb : Bs w A1 n1 c1 l1) (hE : Env w) (hg : Handle w) : Calls Tryz.prog 4 #[.agg (msv m.h sq sa su se), .slice A1 n1 c1] w fun e w' => e = .returned (.bool true) ∧ Below w.heap.size w w' := by
  have a1 := MsBox.new w m.h sq sa su se
  have b1 : Below w.heap.size w (w.alloc (.cells (msv m.h sq sa su se) 26)) := (Below.refl _ _).alloc (Nat.le_refl _) _
  obtain ⟨W, hW⟩ : ∃ W, w.alloc (.cells (msv m.h sq sa su se) 26) = W := ⟨_, rfl⟩
  rw [hW] at a1 b1
  have HW := Lib.hid hW
  have HA := Lib.hid (And.intro a1 b1)
  have HM := Lib.hid (And.intro hm ha)
  have HE := Lib.hid (And.intro hE (And.intro hg hb))
  have hlen := hb.len
  clear a1 b1 hW hm ha hE hg hb
  by_cases h100 : 3000 < n1
  · --<< a
    have hd : decide ((3000 : Int) < (n1 : Int)) = true := decide_eq_true (by omega)
    go_enter Tryz.func4, Tryz.ntmps4
    go_wp2_with (rw [HW.out])
    refine (awake14 (Env.later HE.out.1 HA.out.2 (Nat.le_refl _)) (Handle.later HA.out.2 (Nat.le_refl _) HE.out.2.1)).mono ?_
    rintro e w2 ⟨rfl, b2⟩
    have H2 := Lib.hid (HA.out.2.trans (b2.mono HA.out.2.size))
    clear b2
    go_wp2_with fail
    go_ret
    exact ⟨rfl, H2.out⟩
    -->>
  · have hd : decide ((3000 : Int) < (n1 : Int)) = false := decide_eq_false (by omega)
    go_enter Tryz.func4, Tryz.ntmps4
    go_wp2_with (first
      | (refine wpList_load_ms rfl (.tmp 2) rfl rfl HA.out.1 ?_)
      | (rw [HW.out]))
    refine (playM_any (HM.out.1.later HA.out.2 (Nat.le_refl _)) HM.out.2).mono ?_
    rintro e w2 ⟨tq, ta, tu, te, x, rfl, hx, mx, b2⟩
    have HX := Lib.hid (play_right hx)
    have H2 := Lib.hid (And.intro (HA.out.1.later b2 (Nat.le_refl _)) (And.intro mx (HA.out.2.trans (b2.mono HA.out.2.size))))
    have hqn : tq.n ≤ 1000000000000 ∧ ta.n ≤ 1000000000000 ∧ tu.n ≤ 1000000000000 ∧ te.n ≤ 1000000000000 := by
      have y0 := mx.qs.len
      have y1 := mx.an.len
      have y2 := mx.au.len
      have y3 := mx.ex.len
      have z0 := hx.qs.1
      have z1 := hx.an.1
      have z2 := hx.au.1
      have z3 := hx.ex.1
      exact ⟨by omega, by omega, by omega, by omega⟩
    have hww := HA.out.1.lt
    clear b2 mx hx
    go_wp2_with (first
      | (refine wpList_store_ms rfl (.tmp 2) (.tmp 23) rfl x.h tq ta tu te rfl rfl H2.out.1 ?_; intro w3 a3 o3 z3 g3; have H3 := Lib.hid (And.intro a3 (And.intro (show MsM W.heap.size w3 tq ta tu te x from ⟨H2.out.2.1.qs.away fun k hk => o3 k (by omega), H2.out.2.1.an.away fun k hk => o3 k (by omega), H2.out.2.1.au.away fun k hk => o3 k (by omega), H2.out.2.1.ex.away fun k hk => o3 k (by omega)⟩) (g3 _ _ (Nat.le_refl _) H2.out.2.2))); clear a3 o3 z3 g3)
      | (refine wpList_load_ms rfl (.tmp 2) rfl rfl H3.out.1 ?_))
    have KW := writeM_any H3.out.2.1 HX.out.2.2.2 hqn (Env.later HE.out.1 H3.out.2.2 (Nat.le_refl _))
    have hv : writeMv x = msgB x ∧ writeMe x = fl0 := by
      have h4 : (msgB x).length ≤ 4000 := by have := HX.out.2.2.1; omega
      unfold writeMv writeMe
      rw [if_pos ⟨HX.out.1, h4⟩, if_pos HX.out.1, if_pos h4]
      exact ⟨rfl, rfl⟩
    rw [hv.1, hv.2] at KW
    unfold WriteR at KW
    have KW := Lib.hid KW
    clear hv
    refine KW.out.mono ?_
    rintro e w4 ⟨B, bn, bc, v4, rfl, hB, t4, b4⟩
    obtain rfl := t4.none' rfl
    have hbn := hB.len
    have hb0 : bn ≤ 3492 := by have := HX.out.2.2.1; omega
    have H4 := Lib.hid (And.intro hB (And.intro (H3.out.2.2.trans (b4.mono H3.out.2.2.size)) (And.intro (H3.out.1.later b4 (Nat.le_refl _)) (H3.out.2.1.later b4 (Nat.le_refl _)))))
    clear t4 b4 hB KW
    go_wp2_with fail
    have hP := back_parse HX.out.1 HX.out.2.1 (l := msgB x) (more := []) hbn (by simp) (by omega)
    have KP := parse_any H4.out.1 (by omega) (Handle.later H4.out.2.1 (Nat.le_refl _) HE.out.2.1)
    rw [if_pos rfl] at hP
    rw [hP] at KP
    unfold ParseR at KP
    have KP := Lib.hid KP
    clear hP
    refine KP.out.mono ?_
    clear KP
    rintro e w5 ⟨yq, ya, yu, ye, v5, rfl, yq1, ya1, yu1, ye1, t5, b5⟩
    obtain rfl := t5.none' rfl
    have H5 := Lib.hid (And.intro (show MsM 0 w5 yq ya yu ye x from ⟨yq1.low (Nat.zero_le _), ya1.low (Nat.zero_le _), yu1.low (Nat.zero_le _), ye1.low (Nat.zero_le _)⟩) (And.intro (H4.out.2.1.trans (b5.mono H4.out.2.1.size)) (And.intro (H4.out.2.2.1.later b5 (Nat.le_refl _)) (H4.out.2.2.2.later b5 (Nat.le_refl _)))))
    clear yq1 ya1 yu1 ye1 t5 b5
    go_wp2_with (first
      | (refine wpList_alloc_ms rfl rfl ?_; intro w6 a6 b6 z6; refine wpList_store_ms rfl (.tmp 7) (.tmp 32) rfl x.h yq ya yu ye rfl rfl a6 ?_; intro w7 a7 o7 z7 g7; have b7 := g7 _ _ (Nat.le_refl _) b6; have H7 := Lib.hid (And.intro a7 (And.intro (H5.out.1.later b7 (Nat.le_refl _)) (And.intro (H5.out.2.1.trans (b7.mono H5.out.2.1.size)) (And.intro (H5.out.2.2.1.later b7 (Nat.le_refl _)) (H5.out.2.2.2.later b7 (Nat.le_refl _)))))); clear a6 b6 z6 a7 o7 z7 g7 b7))
    have KP := parse_any (HE.out.2.2.later H7.out.2.2.1 (Nat.le_refl _)) (by omega) (Handle.later H7.out.2.2.1 (Nat.le_refl _) HE.out.2.1)
    obtain ⟨P1, hP1⟩ : ∃ P1, parseM l1 n1 = P1 := ⟨_, rfl⟩
    rw [hP1] at KP
    have hPR : P1.2.code = 0 → (∀ r ∈ recs P1.1, r.data.length ≤ 1000) → rightM P1.1 ∧ ∀ r ∈ recs P1.1, fitR r := fun h1 h2 => by
      rw [← hP1] at h1 h2 ⊢
      exact parse_right hlen h1 h2
    obtain ⟨z, fz⟩ := P1
    dsimp only at hPR
    unfold ParseR at KP
    dsimp only at KP
    have KP := Lib.hid KP
    have HPR := Lib.hid hPR
    clear hP1 hPR
    refine KP.out.mono ?_
    clear KP
    rintro e w8 ⟨zq, za, zu, ze, v8, rfl, zq1, za1, zu1, ze1, t8, b8⟩
    have H8 := Lib.hid (And.intro (show MsM 0 w8 zq za zu ze z from ⟨zq1.low (Nat.zero_le _), za1.low (Nat.zero_le _), zu1.low (Nat.zero_le _), ze1.low (Nat.zero_le _)⟩) (And.intro (And.intro (H7.out.2.2.1.trans (b8.mono H7.out.2.2.1.size)) t8) (And.intro (And.intro (H7.out.1.later b8 (Nat.le_refl _)) (H7.out.2.1.later b8 (Nat.le_refl _))) (And.intro (H7.out.2.2.2.1.later b8 (Nat.le_refl _)) (H7.out.2.2.2.2.later b8 (Nat.le_refl _))))))
    clear zq1 za1 zu1 ze1 t8 b8
    go_wp2_with (first
      | (refine wpList_alloc_ms rfl rfl ?_; intro w9 a9 b9 z9; refine wpList_store_ms rfl (.tmp 9) (.tmp 37) rfl z.h zq za zu ze rfl rfl a9 ?_; intro w10 a10 o10 z10 g10; have b10 := g10 _ _ (Nat.le_refl _) b9; have H10 := Lib.hid (And.intro a10 (And.intro (H8.out.1.later b10 (Nat.le_refl _)) (And.intro (And.intro (H8.out.2.1.1.trans (b10.mono H8.out.2.1.1.size)) (H8.out.2.1.2.later b10 (Nat.le_refl _))) (And.intro (And.intro (H8.out.2.2.1.1.later b10 (Nat.le_refl _)) (H8.out.2.2.1.2.later b10 (Nat.le_refl _))) (And.intro (H8.out.2.2.2.1.later b10 (Nat.le_refl _)) (H8.out.2.2.2.2.later b10 (Nat.le_refl _))))))); clear a9 b9 z9 a10 o10 z10 g10 b10))
    refine (awake14 (Env.later HE.out.1 H10.out.2.2.1.1 (Nat.le_refl _)) (Handle.later H10.out.2.2.1.1 (Nat.le_refl _) HE.out.2.1)).mono ?_
    rintro e w11 ⟨rfl, b11⟩
    have H11 := Lib.hid (And.intro (And.intro (H10.out.1.later b11 (Nat.le_refl _)) (H10.out.2.1.later b11 (Nat.le_refl _))) (And.intro (And.intro (H10.out.2.2.1.1.trans (b11.mono H10.out.2.2.1.1.size)) (H10.out.2.2.1.2.later b11 (Nat.le_refl _))) (And.intro (And.intro (H10.out.2.2.2.1.1.later b11 (Nat.le_refl _)) (H10.out.2.2.2.1.2.later b11 (Nat.le_refl _))) (And.intro (H10.out.2.2.2.2.1.later b11 (Nat.le_refl _)) (H10.out.2.2.2.2.2.later b11 (Nat.le_refl _))))))
    clear b11
    go_wp2_with (first
      | (refine wpList_wanted (by rfl) (wp_load_msg (.tmp 7) rfl rfl H11.out.2.2.1.1 ?_))
      | (refine wpList_wanted (by rfl) (wp_load_msg (.tmp 2) rfl rfl H11.out.2.2.2.1 ?_)))
    refine (message_same H11.out.2.2.1.2 H11.out.2.2.2.2).mono ?_
    rintro e w12 ⟨rfl, b12⟩
    have H12 := Lib.hid (And.intro (And.intro (H11.out.1.1.later b12 (Nat.le_refl _)) (H11.out.1.2.later b12 (Nat.le_refl _))) (And.intro (H11.out.2.1.1.trans (b12.mono H11.out.2.1.1.size)) (H11.out.2.1.2.later b12 (Nat.le_refl _))))
    clear b12
    by_cases hz : fz.code = 0
    · obtain rfl := Tells.none' H12.out.2.2 hz
      have HZ := Lib.hid hz
      clear hz
      have c6 : w12.cell? ⟨w8.heap.size, 6, none⟩ = some (.slice za.A za.n za.c) := H12.out.1.1.cell 6
      have hcap6 := H12.out.1.2.an.cap
      have hmax6 := H12.out.1.2.an.max
      unfold maxLen at hmax6
      have hlen6 := H12.out.1.2.an.len
      go_wp2_with fail
      go_loop [11] (fun i => ∃ k : Nat, k ≤ za.n ∧ i = .int .i64 k ∧ ∀ (j : Nat) (r : Rc), j < k → z.an[j]? = some r → r.data.length ≤ 1000) (fun i => za.n - (intOf i).toNat)
      case atStart => exact ⟨0, Nat.zero_le _, rfl, fun j r h => absurd h (by omega)⟩
      case round =>
        obtain ⟨k6, hk6, rfl, hall6⟩ := hrel
        by_cases hkn6 : k6 < za.n
        · obtain ⟨r, hr⟩ : ∃ r, z.an[k6]? = some r := ⟨z.an[k6]'(by omega), List.getElem?_eq_getElem _⟩
          obtain ⟨b, off, B2, q, m2, hA, hrg, hd2, _⟩ := H12.out.1.2.an.here k6 r hr
          have hdc := rc_data_at (H12.out.1.2.an.ok r (List.mem_of_getElem? hr)) hrg
          have hdl := hd2.len
          have HX2 := Lib.hid (And.intro hr (And.intro hall6 hdl))
          clear hr hrg hd2 hall6 hdl
          rw [hA] at c6
          clear hA
          by_cases hbig : 1000 < q
          · have hdec : decide ((1000 : Int) < (q : Int)) = true := decide_eq_true (by omega)
            go_wp2_with fail
            go_ret
            exact ⟨rfl, H12.out.2.1⟩
          · have hdec : decide ((1000 : Int) < (q : Int)) = false := decide_eq_false (by omega)
            go_wp2_with fail
            go_round
            case rel =>
              refine ⟨k6 + 1, hkn6, by go_num, fun j y hj hy => ?_⟩
              by_cases hjk : j = k6
              · subst hjk
                rw [HX2.out.1] at hy
                obtain rfl := Option.some.inj hy
                have := HX2.out.2.2
                omega
              · exact HX2.out.2.1 j y (by omega) hy
            case measure => simp [intOf]; omega
        · obtain rfl : k6 = za.n := by omega
          have HL6 := Lib.hid hall6
          clear hall6
          have c7 : w12.cell? ⟨w8.heap.size, 7, none⟩ = some (.slice zu.A zu.n zu.c) := H12.out.1.1.cell 7
          have hcap7 := H12.out.1.2.au.cap
          have hmax7 := H12.out.1.2.au.max
          unfold maxLen at hmax7
          have hlen7 := H12.out.1.2.au.len
          go_wp2_with fail
          go_loop [12] (fun i => ∃ k : Nat, k ≤ zu.n ∧ i = .int .i64 k ∧ ∀ (j : Nat) (r : Rc), j < k → z.au[j]? = some r → r.data.length ≤ 1000) (fun i => zu.n - (intOf i).toNat)
          case atStart => exact ⟨0, Nat.zero_le _, rfl, fun j r h => absurd h (by omega)⟩
          case round =>
            obtain ⟨k7, hk7, rfl, hall7⟩ := hrel
            by_cases hkn7 : k7 < zu.n
            · obtain ⟨r, hr⟩ : ∃ r, z.au[k7]? = some r := ⟨z.au[k7]'(by omega), List.getElem?_eq_getElem _⟩
              obtain ⟨b, off, B2, q, m2, hA, hrg, hd2, _⟩ := H12.out.1.2.au.here k7 r hr
              have hdc := rc_data_at (H12.out.1.2.au.ok r (List.mem_of_getElem? hr)) hrg
              have hdl := hd2.len
              have HX2 := Lib.hid (And.intro hr (And.intro hall7 hdl))
              clear hr hrg hd2 hall7 hdl
              rw [hA] at c7
              clear hA
              by_cases hbig : 1000 < q
              · have hdec : decide ((1000 : Int) < (q : Int)) = true := decide_eq_true (by omega)
                go_wp2_with fail
                go_ret
                exact ⟨rfl, H12.out.2.1⟩
              · have hdec : decide ((1000 : Int) < (q : Int)) = false := decide_eq_false (by omega)
                go_wp2_with fail
                go_round
                case rel =>
                  refine ⟨k7 + 1, hkn7, by go_num, fun j y hj hy => ?_⟩
                  by_cases hjk : j = k7
                  · subst hjk
                    rw [HX2.out.1] at hy
                    obtain rfl := Option.some.inj hy
                    have := HX2.out.2.2
                    omega
                  · exact HX2.out.2.1 j y (by omega) hy
                case measure => simp [intOf]; omega
            · obtain rfl : k7 = zu.n := by omega
              have HL7 := Lib.hid hall7
              clear hall7
              have c8 : w12.cell? ⟨w8.heap.size, 8, none⟩ = some (.slice ze.A ze.n ze.c) := H12.out.1.1.cell 8
              have hcap8 := H12.out.1.2.ex.cap
              have hmax8 := H12.out.1.2.ex.max
              unfold maxLen at hmax8
              have hlen8 := H12.out.1.2.ex.len
              go_wp2_with fail
              go_loop [13] (fun i => ∃ k : Nat, k ≤ ze.n ∧ i = .int .i64 k ∧ ∀ (j : Nat) (r : Rc), j < k → z.ex[j]? = some r → r.data.length ≤ 1000) (fun i => ze.n - (intOf i).toNat)
              case atStart => exact ⟨0, Nat.zero_le _, rfl, fun j r h => absurd h (by omega)⟩
              case round =>
                obtain ⟨k8, hk8, rfl, hall8⟩ := hrel
                by_cases hkn8 : k8 < ze.n
                · obtain ⟨r, hr⟩ : ∃ r, z.ex[k8]? = some r := ⟨z.ex[k8]'(by omega), List.getElem?_eq_getElem _⟩
                  obtain ⟨b, off, B2, q, m2, hA, hrg, hd2, _⟩ := H12.out.1.2.ex.here k8 r hr
                  have hdc := rc_data_at (H12.out.1.2.ex.ok r (List.mem_of_getElem? hr)) hrg
                  have hdl := hd2.len
                  have HX2 := Lib.hid (And.intro hr (And.intro hall8 hdl))
                  clear hr hrg hd2 hall8 hdl
                  rw [hA] at c8
                  clear hA
                  by_cases hbig : 1000 < q
                  · have hdec : decide ((1000 : Int) < (q : Int)) = true := decide_eq_true (by omega)
                    go_wp2_with fail
                    go_ret
                    exact ⟨rfl, H12.out.2.1⟩
                  · have hdec : decide ((1000 : Int) < (q : Int)) = false := decide_eq_false (by omega)
                    go_wp2_with fail
                    go_round
                    case rel =>
                      refine ⟨k8 + 1, hkn8, by go_num, fun j y hj hy => ?_⟩
                      by_cases hjk : j = k8
                      · subst hjk
                        rw [HX2.out.1] at hy
                        obtain rfl := Option.some.inj hy
                        have := HX2.out.2.2
                        omega
                      · exact HX2.out.2.1 j y (by omega) hy
                    case measure => simp [intOf]; omega
                · obtain rfl : k8 = ze.n := by omega
                  have HL8 := Lib.hid hall8
                  clear hall8
                  have hrec : ∀ r ∈ recs z, r.data.length ≤ 1000 := fun r hr => by
                    unfold recs at hr
                    rcases List.mem_append.1 hr with hr | hr
                    · obtain ⟨j, hj⟩ := List.mem_iff_getElem?.1 hr
                      exact HL6.out j r (by have := (List.getElem?_eq_some_iff.1 hj).1; omega) hj
                    rcases List.mem_append.1 hr with hr | hr
                    · obtain ⟨j, hj⟩ := List.mem_iff_getElem?.1 hr
                      exact HL7.out j r (by have := (List.getElem?_eq_some_iff.1 hj).1; omega) hj
                    · obtain ⟨j, hj⟩ := List.mem_iff_getElem?.1 hr
                      exact HL8.out j r (by have := (List.getElem?_eq_some_iff.1 hj).1; omega) hj
                  obtain ⟨hzr, hzf⟩ := HPR.out HZ.out hrec
                  have hzo := ok_of_right hzr hzf
                  have hzn : zq.n ≤ 1000000000000 ∧ za.n ≤ 1000000000000 ∧ zu.n ≤ 1000000000000 ∧ ze.n ≤ 1000000000000 := by
                    have y0 := H12.out.1.2.qs.len
                    have y1 := hzr.1.2
                    unfold countM recs at y1
                    rw [List.length_append, List.length_append] at y1
                    exact ⟨by omega, by omega, by omega, by omega⟩
                  have KW := writeM_any H12.out.1.2 hzo hzn (Env.later HE.out.1 H12.out.2.1 (Nat.le_refl _))
                  have HZZ := Lib.hid (And.intro hzr hzf)
                  clear hrec hzr hzf hzo hzn
                  by_cases h4 : (msgB z).length ≤ 4000
                  · have hv : writeMv z = msgB z ∧ writeMe z = fl0 := by
                      unfold writeMv writeMe
                      rw [if_pos ⟨HZZ.out.1, h4⟩, if_pos HZZ.out.1, if_pos h4]
                      exact ⟨rfl, rfl⟩
                    rw [hv.1, hv.2] at KW
                    unfold WriteR at KW
                    have KW := Lib.hid KW
                    clear hv
                    go_wp2_with (refine wpList_load_ms rfl (.tmp 9) rfl rfl H12.out.1.1 ?_)
                    refine KW.out.mono ?_
                    clear KW
                    rintro e w13 ⟨D, dn, dc, v13, rfl, hD, t13, b13⟩
                    obtain rfl := t13.none' rfl
                    have hdn := hD.len
                    have H13 := Lib.hid (And.intro (And.intro (H12.out.1.1.later b13 (Nat.le_refl _)) (H12.out.1.2.later b13 (Nat.le_refl _))) (And.intro (H12.out.2.1.trans (b13.mono H12.out.2.1.size)) hD))
                    clear t13 b13 hD
                    go_wp2_with fail
                    have hP := back_parse HZZ.out.1 HZZ.out.2 (l := msgB z) (more := []) hdn (by simp) (by omega)
                    have KP := parse_any H13.out.2.2 (by omega) (Handle.later H13.out.2.1 (Nat.le_refl _) HE.out.2.1)
                    rw [if_pos rfl] at hP
                    rw [hP] at KP
                    unfold ParseR at KP
                    have KP := Lib.hid KP
                    clear hP
                    refine KP.out.mono ?_
                    clear KP
                    rintro e w14 ⟨uq, ua, uu, ue, v14, rfl, uq1, ua1, uu1, ue1, t14, b14⟩
                    obtain rfl := t14.none' rfl
                    have H14 := Lib.hid (And.intro (And.intro (H13.out.1.1.later b14 (Nat.le_refl _)) (H13.out.1.2.later b14 (Nat.le_refl _))) (And.intro (H13.out.2.1.trans (b14.mono H13.out.2.1.size)) (show MsM 0 w14 uq ua uu ue z from ⟨uq1.low (Nat.zero_le _), ua1.low (Nat.zero_le _), uu1.low (Nat.zero_le _), ue1.low (Nat.zero_le _)⟩)))
                    clear uq1 ua1 uu1 ue1 t14 b14
                    go_wp2_with (first
                      | (refine wpList_alloc_ms rfl rfl ?_; intro w15 a15 b15 z15; refine wpList_store_ms rfl (.tmp 16) (.tmp 115) rfl z.h uq ua uu ue rfl rfl a15 ?_; intro w16 a16 o16 z16 g16; have b16 := g16 _ _ (Nat.le_refl _) b15; have H16 := Lib.hid (And.intro (And.intro (H14.out.1.1.later b16 (Nat.le_refl _)) (H14.out.1.2.later b16 (Nat.le_refl _))) (And.intro (H14.out.2.1.trans (b16.mono H14.out.2.1.size)) (And.intro a16 (H14.out.2.2.later b16 (Nat.le_refl _))))); clear a15 b15 z15 a16 o16 z16 g16 b16)
                      | (refine wpList_wanted (by rfl) (wp_load_msg (.tmp 16) rfl rfl H16.out.2.2.1 ?_))
                      | (refine wpList_wanted (by rfl) (wp_load_msg (.tmp 9) rfl rfl H16.out.1.1 ?_)))
                    refine (message_same H16.out.2.2.2 H16.out.1.2).mono ?_
                    rintro e w17 ⟨rfl, b17⟩
                    have H17 := Lib.hid (H16.out.2.1.trans (b17.mono H16.out.2.1.size))
                    clear b17
                    go_wp2_with fail
                    go_ret
                    exact ⟨rfl, H17.out⟩
                  · have hv : writeMe z = ⟨4, 0, false⟩ := by
                      unfold writeMe
                      rw [if_pos HZZ.out.1, if_neg h4]
                    rw [hv] at KW
                    unfold WriteR at KW
                    have KW := Lib.hid KW
                    clear hv
                    go_wp2_with (refine wpList_load_ms rfl (.tmp 9) rfl rfl H12.out.1.1 ?_)
                    refine KW.out.mono ?_
                    clear KW
                    rintro e w13 ⟨D, dn, dc, v13, rfl, hD, t13, b13⟩
                    obtain ⟨T, y, rfl⟩ := Tells.held' t13 (by decide)
                    have H13 := Lib.hid (And.intro (H12.out.2.1.trans (b13.mono H12.out.2.1.size)) t13)
                    clear t13 b13 hD
                    go_wp2_with fail
                    refine (code_told H13.out.2 (by decide) (Handle.later H13.out.1 (Nat.le_refl _) HE.out.2.1)).mono ?_
                    rintro e w14 ⟨rfl, b14⟩
                    have H14 := Lib.hid (H13.out.1.trans (b14.mono H13.out.1.size))
                    clear b14
                    go_wp2_with fail
                    go_ret
                    exact ⟨rfl, H14.out⟩
    · obtain ⟨T, y, rfl⟩ := Tells.held' H12.out.2.2 hz
      have HZ := Lib.hid hz
      clear hz
      go_wp2_with fail
      go_ret
      exact ⟨rfl, H12.out.2.1⟩
end Go.Proofs.YtepenemhidhdpaaGreatDoor
