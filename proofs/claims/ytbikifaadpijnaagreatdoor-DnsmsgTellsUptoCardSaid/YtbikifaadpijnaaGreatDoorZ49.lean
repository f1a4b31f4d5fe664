/-
  stockadelaw14.DnsmsgTells answers true, where what is handed in is of so many records and letters at most. Conditions: those of the slices; errors.errorType holds the handle of the type error; what the program's text has laid (internal/bytealg.MaxLen holds an int).
-/
import Derived.Test.YtbikifaadpijnaaGreatDoorZ47
import Derived.Test.YtbikifaadpijnaaGreatDoorZ42
import Derived.Test.YtbikifaadpijnaaGreatDoorZ46
import Derived.Test.YtbikifaadpijnaaGreatDoorZ21
import Derived.IntWalk
namespace Go.Proofs.YtbikifaadpijnaaGreatDoor
open Go.RowKit
set_option maxRecDepth 100000

theorem mem_sumR : ∀ {xs : List Rc} {r : Rc}, r ∈ xs → r.name.length + r.target.length + r.data.length ≤ sumR xs
  | [], r, h => by cases h
  | x :: xs, r, h => by
    have e : sumR (x :: xs) = (x.name.length + x.target.length + x.data.length) + sumR xs := by simp [sumR]
    rw [e]
    rcases List.mem_cons.1 h with rfl | h
    · omega
    · have := mem_sumR h
      omega
theorem mem_sumQ : ∀ {xs : List Qs} {q : Qs}, q ∈ xs → q.name.length ≤ sumQ xs
  | [], q, h => by cases h
  | x :: xs, q, h => by
    have e : sumQ (x :: xs) = x.name.length + sumQ xs := by simp [sumQ]
    rw [e]
    rcases List.mem_cons.1 h with rfl | h
    · omega
    · have := mem_sumQ h
      omega
set_option maxHeartbeats 16000000 in
theorem dnsmsgTells {A1 : Option Addr} {n1 c1 : Nat} {l1 : List UInt8} {sq sa su se : Sl} {m : Ms} {w : World} (hb : Bs w A1 n1 c1 l1) (hm : MsM 0 w sq sa su se m) (htt : ∀ r ∈ recs m, 0 ≤ r.ttl ∧ r.ttl < 4294967296) (hr : (recs m).length ≤ 900000) (hq : m.qs.length ≤ 2000000) (hsr : sumR (recs m) ≤ 2000000) (hsq : sumQ m.qs ≤ 2000000) (hE : Env w) (hg : Handle w) :
    Calls Tryz.prog 3 #[.slice A1 n1 c1, .agg (msv m.h sq sa su se)] w fun e w' => e = .returned (.bool true) ∧ Below w.heap.size w w' := by
  have a1 := MsBox.new w m.h sq sa su se
  have b1 : Below w.heap.size w (w.alloc (.cells (msv m.h sq sa su se) 26)) := (Below.refl _ _).alloc (Nat.le_refl _) _
  obtain ⟨u1, hW⟩ : ∃ W, w.alloc (.cells (msv m.h sq sa su se) 26) = W := ⟨_, rfl⟩
  rw [hW] at a1 b1
  have HW := Lib.hid hW
  have MB := Lib.hid a1
  have S0 := Lib.hid b1
  have HB := Lib.hid hb
  have HM := Lib.hid hm
  have HE := Lib.hid hE
  have HG := Lib.hid hg
  have HTT := Lib.hid htt
  have hlen := hb.len
  clear a1 b1 hW hb hm hE hg htt
  by_cases h5 : 5000 < n1
  · skip
    --<< long
    have hd5 : decide ((5000 : Int) < (n1 : Int)) = true := decide_eq_true (by omega)
    go_enter Tryz.func3, Tryz.ntmps3
    go_wp2_with (rw [HW.out])
    refine (awake14 (Env.later HE.out S0.out (Nat.le_refl _)) (Handle.later S0.out (Nat.le_refl _) HG.out)).mono ?_
    rintro e u2 ⟨rfl, b2⟩
    have S1 := Lib.hid b2
    clear b2
    go_wp2_with fail
    go_ret
    exact ⟨rfl, (S0.out.trans (S1.out.mono S0.out.size))⟩
    -->>
  have hd5 : decide ((5000 : Int) < (n1 : Int)) = false := decide_eq_false (by omega)
  have hcap := HB.out.cap
  have hmax := HB.out.max
  unfold maxLen at hmax
  have KF := few_any (HM.out.later S0.out (Nat.le_refl _)) hr hq hsr hsq
  by_cases hf : fewV m
  case neg =>
    --<< many
    rw [decide_eq_false hf] at KF
    have KF := Lib.hid KF
    clear hf
    go_enter Tryz.func3, Tryz.ntmps3
    go_wp2_with (first
      | (rw [HW.out])
      | (refine wpList_wanted (by rfl) (wp_load_msg (.tmp 3) rfl rfl MB.out ?_)))
    refine KF.out.mono ?_
    rintro e u2 ⟨rfl, b2⟩
    have S1 := Lib.hid b2
    clear b2
    go_wp2_with fail
    refine (awake14 (Env.later HE.out (S0.out.trans (S1.out.mono S0.out.size)) (Nat.le_refl _)) (Handle.later (S0.out.trans (S1.out.mono S0.out.size)) (Nat.le_refl _) HG.out)).mono ?_
    rintro e u3 ⟨rfl, b3⟩
    have S2 := Lib.hid b3
    clear b3
    go_wp2_with fail
    go_ret
    exact ⟨rfl, (S0.out.trans ((S1.out.trans (S2.out.mono S1.out.size)).mono S0.out.size))⟩
    -->>
  rw [decide_eq_true hf] at KF
  have KF := Lib.hid KF
  have hq100 : m.qs.length ≤ 100 := hf.2.2
  have hr100 : (recs m).length ≤ 100 := hf.2.1
  have HOK := Lib.hid (show MsOk m ∧ Ms10 m from by
    have h1 := hf.1
    have hqn : ∀ q ∈ m.qs, q.name.length ≤ 8000 := fun q hq => by have := mem_sumQ hq; omega
    have hrn : ∀ r ∈ recs m, r.name.length ≤ 8000 ∧ r.target.length ≤ 8000 := fun r hr => by have := mem_sumR hr; omega
    exact ⟨⟨fun q hq => by have := hqn q hq; omega, fun r hr => ⟨by have := hrn r hr; omega, HTT.out r hr⟩⟩, ⟨fun q hq => by have := hqn q hq; omega, fun r hr => ⟨by have := hrn r hr; omega, HTT.out r hr⟩⟩⟩)
  have HC := Lib.hid (show sq.n ≤ 1000000000000 ∧ sa.n ≤ 1000000000000 ∧ su.n ≤ 1000000000000 ∧ se.n ≤ 1000000000000 from by
    have y0 := HM.out.qs.len
    have y1 := HM.out.an.len
    have y2 := HM.out.au.len
    have y3 := HM.out.ex.len
    unfold recs at hr100
    rw [List.length_append, List.length_append] at hr100
    exact ⟨by omega, by omega, by omega, by omega⟩)
  clear hf
  --<< d
  obtain ⟨PM, hPM⟩ : ∃ P, parseM l1 n1 = P := ⟨_, rfl⟩
  obtain ⟨WL, hWL⟩ : ∃ P, writeMv m = P := ⟨_, rfl⟩
  obtain ⟨WE, hWE⟩ : ∃ P, writeMe m = P := ⟨_, rfl⟩
  obtain ⟨pm, ⟨pc, pa, pp⟩⟩ := PM
  obtain ⟨wc, wa, wp⟩ := WE
  have HPM := Lib.hid hPM
  have HWL := Lib.hid hWL
  have HWE := Lib.hid hWE
  clear hPM hWL hWE
  go_enter Tryz.func3, Tryz.ntmps3
  go_wp2_with (first
    | (rw [HW.out])
    | (refine wpList_wanted (by rfl) (wp_load_msg (.tmp 3) rfl rfl MB.out ?_)))
  refine KF.out.mono ?_
  rintro e u2 ⟨rfl, b2⟩
  have S1 := Lib.hid b2
  clear b2 KF
  go_wp2_with fail
  refine (own_any (HB.out.later (S0.out.trans (S1.out.mono S0.out.size)) (Nat.le_refl _)) 71 (by omega)).mono ?_
  rintro e u3 ⟨rfl, o3, b3⟩
  have S2 := Lib.hid b3
  have O3 := Lib.hid o3
  clear b3 o3
  go_wp2_with fail
  have KP := parse_any (O3.out.bs hlen (by unfold maxLen; omega)) (by omega) (Handle.later (S0.out.trans ((S1.out.trans (S2.out.mono S1.out.size)).mono S0.out.size)) (Nat.le_refl _) HG.out)
  rw [HPM.out] at KP
  unfold ParseR at KP
  dsimp only at KP
  have KP := Lib.hid KP
  refine KP.out.mono ?_
  clear KP
  rintro e u4 ⟨pq, qa, qu, qe, v4, rfl, x1, x2, x3, x4, t4, b4⟩
  have S3 := Lib.hid b4
  have P4 := Lib.hid (show MsM 0 u4 pq qa qu qe pm from ⟨x1.low (Nat.zero_le _), x2.low (Nat.zero_le _), x3.low (Nat.zero_le _), x4.low (Nat.zero_le _)⟩)
  have T4 := Lib.hid t4
  clear b4 x1 x2 x3 x4 t4
  go_wp2_with (first
    | (refine wpList_alloc_ms rfl rfl ?_; intro w' a' b' z'; have HX := Lib.hid (And.intro a' b'); clear a' b' z')
    | (refine wpList_store_ms rfl (.tmp 6) (.tmp 28) rfl pm.h pq qa qu qe rfl rfl HX.out.1 ?_; intro u5 a' o' z' g'; have S4 := Lib.hid (g' _ _ (Nat.le_refl _) HX.out.2); have M5 := Lib.hid a'; clear a' o' z' g'))
  have KR := ref_parse (HB.out.later (S0.out.trans ((S1.out.trans ((S2.out.trans ((S3.out.trans (S4.out.mono S3.out.size)).mono S2.out.size)).mono S1.out.size)).mono S0.out.size)) (Nat.le_refl _)) (by omega)
  rw [HPM.out] at KR
  unfold RefP at KR
  dsimp only at KR
  have KR := Lib.hid KR
  refine KR.out.mono ?_
  clear KR
  rintro e u6 ⟨rq, ra, ru, re, rfl, x6, b6⟩
  have S5 := Lib.hid b6
  have R6 := Lib.hid x6
  clear b6 x6
  go_wp2_with (first
    | (refine wpList_alloc_ms rfl rfl ?_; intro y1 a' b' z'; have HY := Lib.hid (And.intro a' b'); have ly := a'.lt; clear a' b' z')
    | (refine wpList_alloc_fl rfl rfl ?_; intro y2 a' b' z'; have HZ := Lib.hid (And.intro (HY.out.1.later b' (Nat.le_refl _)) (And.intro a' (HY.out.2.trans (b'.mono HY.out.2.size)))); clear a' b' z')
    | (refine wpList_store_ms rfl (.tmp 8) (.tmp 33) rfl pm.h rq ra ru re rfl rfl HZ.out.1 ?_; intro y3 a' o' z' g'; have HV := Lib.hid (And.intro a' (And.intro (HZ.out.2.1.same (o' _ (Ne.symm (Nat.ne_of_lt ly)))) (g' _ _ (Nat.le_refl _) HZ.out.2.2))); clear a' o' z' g')
    | (refine wpList_store_fl rfl (.tmp 9) (.tmp 34) rfl pc pa pp rfl rfl HV.out.2.1 ?_; intro u7 a' o' z' g'; have S6 := Lib.hid (g' _ _ (Nat.le_of_lt ly) HV.out.2.2); have M7 := Lib.hid (HV.out.1.same (o' _ (Nat.ne_of_lt ly))); have F7 := Lib.hid a'; clear a' o' z' g')
    | (refine wpList_load_ms rfl (.tmp 3) rfl rfl (MB.out.later (S1.out.trans ((S2.out.trans ((S3.out.trans ((S4.out.trans ((S5.out.trans (S6.out.mono S5.out.size)).mono S4.out.size)).mono S3.out.size)).mono S2.out.size)).mono S1.out.size)) (Nat.le_refl _)) ?_))
  have KW := writeM_any (HM.out.later (S0.out.trans ((S1.out.trans ((S2.out.trans ((S3.out.trans ((S4.out.trans ((S5.out.trans (S6.out.mono S5.out.size)).mono S4.out.size)).mono S3.out.size)).mono S2.out.size)).mono S1.out.size)).mono S0.out.size)) (Nat.le_refl _)) HOK.out.1 HC.out (Env.later HE.out (S0.out.trans ((S1.out.trans ((S2.out.trans ((S3.out.trans ((S4.out.trans ((S5.out.trans (S6.out.mono S5.out.size)).mono S4.out.size)).mono S3.out.size)).mono S2.out.size)).mono S1.out.size)).mono S0.out.size)) (Nat.le_refl _))
  rw [HWL.out, HWE.out] at KW
  unfold WriteR at KW
  have KW := Lib.hid KW
  refine KW.out.mono ?_
  clear KW
  rintro e u8 ⟨B8, n8, c8, v8, rfl, d8, t8, b8⟩
  have S7 := Lib.hid b8
  have D8 := Lib.hid d8
  have T8 := Lib.hid t8
  clear b8 d8 t8
  go_wp2_with (first
    | (refine wpList_load_ms rfl (.tmp 3) rfl rfl (MB.out.later (S1.out.trans ((S2.out.trans ((S3.out.trans ((S4.out.trans ((S5.out.trans ((S6.out.trans (S7.out.mono S6.out.size)).mono S5.out.size)).mono S4.out.size)).mono S3.out.size)).mono S2.out.size)).mono S1.out.size)) (Nat.le_refl _)) ?_))
  have KV := ref_writeM (HM.out.later (S0.out.trans ((S1.out.trans ((S2.out.trans ((S3.out.trans ((S4.out.trans ((S5.out.trans ((S6.out.trans (S7.out.mono S6.out.size)).mono S5.out.size)).mono S4.out.size)).mono S3.out.size)).mono S2.out.size)).mono S1.out.size)).mono S0.out.size)) (Nat.le_refl _)) HOK.out.2 hr100 hq100
  rw [HWL.out, HWE.out] at KV
  unfold RefM at KV
  dsimp only at KV
  have KV := Lib.hid KV
  refine KV.out.mono ?_
  clear KV
  rintro e u9 ⟨B9, n9, c9, rfl, d9, b9⟩
  have S8 := Lib.hid b9
  have D9 := Lib.hid d9
  clear b9 d9
  go_wp2_with (first
    | (refine wpList_alloc_fl rfl rfl ?_; intro y5 a' b' z'; have HY5 := Lib.hid (And.intro a' b'); clear a' b' z')
    | (refine wpList_store_fl rfl (.tmp 13) (.tmp 44) rfl wc wa wp rfl rfl HY5.out.1 ?_; intro u10 a' o' z' g'; have S9 := Lib.hid (g' _ _ (Nat.le_refl _) HY5.out.2); have F10 := Lib.hid a'; clear a' o' z' g'))
  refine (awake14 (Env.later HE.out (S0.out.trans ((S1.out.trans ((S2.out.trans ((S3.out.trans ((S4.out.trans ((S5.out.trans ((S6.out.trans ((S7.out.trans ((S8.out.trans (S9.out.mono S8.out.size)).mono S7.out.size)).mono S6.out.size)).mono S5.out.size)).mono S4.out.size)).mono S3.out.size)).mono S2.out.size)).mono S1.out.size)).mono S0.out.size)) (Nat.le_refl _)) (Handle.later (S0.out.trans ((S1.out.trans ((S2.out.trans ((S3.out.trans ((S4.out.trans ((S5.out.trans ((S6.out.trans ((S7.out.trans ((S8.out.trans (S9.out.mono S8.out.size)).mono S7.out.size)).mono S6.out.size)).mono S5.out.size)).mono S4.out.size)).mono S3.out.size)).mono S2.out.size)).mono S1.out.size)).mono S0.out.size)) (Nat.le_refl _) HG.out)).mono ?_
  rintro e u11 ⟨rfl, b11⟩
  have S10 := Lib.hid b11
  clear b11
  go_wp2_with (first
    | (refine wpList_wanted (by rfl) (wp_load_msg (.tmp 6) rfl rfl (M5.out.later (S5.out.trans ((S6.out.trans ((S7.out.trans ((S8.out.trans ((S9.out.trans (S10.out.mono S9.out.size)).mono S8.out.size)).mono S7.out.size)).mono S6.out.size)).mono S5.out.size)) (Nat.le_refl _)) ?_))
    | (refine wpList_wanted (by rfl) (wp_load_msg (.tmp 8) rfl rfl (M7.out.later (S7.out.trans ((S8.out.trans ((S9.out.trans (S10.out.mono S9.out.size)).mono S8.out.size)).mono S7.out.size)) (Nat.le_refl _)) ?_)))
  refine (message_same (P4.out.later (S4.out.trans ((S5.out.trans ((S6.out.trans ((S7.out.trans ((S8.out.trans ((S9.out.trans (S10.out.mono S9.out.size)).mono S8.out.size)).mono S7.out.size)).mono S6.out.size)).mono S5.out.size)).mono S4.out.size)) (Nat.le_refl _)) (R6.out.later (S6.out.trans ((S7.out.trans ((S8.out.trans ((S9.out.trans (S10.out.mono S9.out.size)).mono S8.out.size)).mono S7.out.size)).mono S6.out.size)) (Nat.le_refl _))).mono ?_
  rintro e u12 ⟨rfl, b12⟩
  have S11 := Lib.hid b12
  clear b12
  go_wp2_with (refine wpList_load_fl_w' (by rfl) (.tmp 9) rfl rfl (F7.out.later (S7.out.trans ((S8.out.trans ((S9.out.trans ((S10.out.trans (S11.out.mono S10.out.size)).mono S9.out.size)).mono S8.out.size)).mono S7.out.size)) (Nat.le_refl _)) ?_)
  refine (is_told3 (T4.out.later (S4.out.trans ((S5.out.trans ((S6.out.trans ((S7.out.trans ((S8.out.trans ((S9.out.trans ((S10.out.trans (S11.out.mono S10.out.size)).mono S9.out.size)).mono S8.out.size)).mono S7.out.size)).mono S6.out.size)).mono S5.out.size)).mono S4.out.size)) (Nat.le_refl _)) (Handle.later (S0.out.trans ((S1.out.trans ((S2.out.trans ((S3.out.trans ((S4.out.trans ((S5.out.trans ((S6.out.trans ((S7.out.trans ((S8.out.trans ((S9.out.trans ((S10.out.trans (S11.out.mono S10.out.size)).mono S9.out.size)).mono S8.out.size)).mono S7.out.size)).mono S6.out.size)).mono S5.out.size)).mono S4.out.size)).mono S3.out.size)).mono S2.out.size)).mono S1.out.size)).mono S0.out.size)) (Nat.le_refl _) HG.out)).mono ?_
  rintro e u13 ⟨rfl, b13⟩
  have S12 := Lib.hid b13
  clear b13
  go_wp2_with fail
  refine (bytes_same (D8.out.later (S8.out.trans ((S9.out.trans ((S10.out.trans ((S11.out.trans (S12.out.mono S11.out.size)).mono S10.out.size)).mono S9.out.size)).mono S8.out.size)) (Nat.le_refl _)) (D9.out.later (S9.out.trans ((S10.out.trans ((S11.out.trans (S12.out.mono S11.out.size)).mono S10.out.size)).mono S9.out.size)) (Nat.le_refl _))).mono ?_
  rintro e _ ⟨rfl, rfl⟩
  go_wp2_with (refine wpList_load_fl_w' (by rfl) (.tmp 13) rfl rfl (F10.out.later (S10.out.trans ((S11.out.trans (S12.out.mono S11.out.size)).mono S10.out.size)) (Nat.le_refl _)) ?_)
  refine (is_told3 (T8.out.later (S8.out.trans ((S9.out.trans ((S10.out.trans ((S11.out.trans (S12.out.mono S11.out.size)).mono S10.out.size)).mono S9.out.size)).mono S8.out.size)) (Nat.le_refl _)) (Handle.later (S0.out.trans ((S1.out.trans ((S2.out.trans ((S3.out.trans ((S4.out.trans ((S5.out.trans ((S6.out.trans ((S7.out.trans ((S8.out.trans ((S9.out.trans ((S10.out.trans ((S11.out.trans (S12.out.mono S11.out.size)).mono S10.out.size)).mono S9.out.size)).mono S8.out.size)).mono S7.out.size)).mono S6.out.size)).mono S5.out.size)).mono S4.out.size)).mono S3.out.size)).mono S2.out.size)).mono S1.out.size)).mono S0.out.size)) (Nat.le_refl _) HG.out)).mono ?_
  rintro e u14 ⟨rfl, b14⟩
  have S13 := Lib.hid b14
  clear b14
  go_wp2_with fail
  refine (kept_any (O3.out.later (S3.out.trans ((S4.out.trans ((S5.out.trans ((S6.out.trans ((S7.out.trans ((S8.out.trans ((S9.out.trans ((S10.out.trans ((S11.out.trans ((S12.out.trans (S13.out.mono S12.out.size)).mono S11.out.size)).mono S10.out.size)).mono S9.out.size)).mono S8.out.size)).mono S7.out.size)).mono S6.out.size)).mono S5.out.size)).mono S4.out.size)).mono S3.out.size)) (Nat.le_refl _)) (HB.out.later (S0.out.trans ((S1.out.trans ((S2.out.trans ((S3.out.trans ((S4.out.trans ((S5.out.trans ((S6.out.trans ((S7.out.trans ((S8.out.trans ((S9.out.trans ((S10.out.trans ((S11.out.trans ((S12.out.trans (S13.out.mono S12.out.size)).mono S11.out.size)).mono S10.out.size)).mono S9.out.size)).mono S8.out.size)).mono S7.out.size)).mono S6.out.size)).mono S5.out.size)).mono S4.out.size)).mono S3.out.size)).mono S2.out.size)).mono S1.out.size)).mono S0.out.size)) (Nat.le_refl _)) (by omega)).mono ?_
  rintro e u15 ⟨rfl, b15⟩
  have S14 := Lib.hid b15
  clear b15
  go_wp2_with fail
  go_ret
  exact ⟨rfl, (S0.out.trans ((S1.out.trans ((S2.out.trans ((S3.out.trans ((S4.out.trans ((S5.out.trans ((S6.out.trans ((S7.out.trans ((S8.out.trans ((S9.out.trans ((S10.out.trans ((S11.out.trans ((S12.out.trans ((S13.out.trans (S14.out.mono S13.out.size)).mono S12.out.size)).mono S11.out.size)).mono S10.out.size)).mono S9.out.size)).mono S8.out.size)).mono S7.out.size)).mono S6.out.size)).mono S5.out.size)).mono S4.out.size)).mono S3.out.size)).mono S2.out.size)).mono S1.out.size)).mono S0.out.size))⟩
  -->>
end Go.Proofs.YtbikifaadpijnaaGreatDoor
