/-
  stockadelaw13.RecordTells answers true, whatever is handed in. Conditions: those of the slices; errors.errorType holds the handle of the type error; what the program's text has laid (internal/bytealg.MaxLen holds an int).
-/
import Derived.Test.YtpojiimcdknafaaGreatDoorZ46
import Derived.Test.YtpojiimcdknafaaGreatDoorZ47
import Derived.Test.YtpojiimcdknafaaGreatDoorZ44
import Derived.Test.YtpojiimcdknafaaGreatDoorZ21
namespace Go.Proofs.YtpojiimcdknafaaGreatDoor
open Go.RowKit
set_option maxRecDepth 100000

theorem readRv_ok {l : List UInt8} {n : Nat} (hn : l.length = n) (at_ : Int) : (readRv l n at_).r.ok := by
  unfold readRv readRq
  repeat' split
  all_goals first
    | exact Rc.zero_ok
    | exact dataV_ok l n _ _ ((readQv l n at_).next + 4) (num2 l ((readQv l n at_).next + 4)) (by rw [List.length_take, List.length_drop]; omega)
set_option maxHeartbeats 8000000 in
theorem recordTells {A1 : Option Addr} {n1 c1 : Nat} {l : List UInt8} {w : World} (hb1 : Bs w A1 n1 c1 l) (at_ : Int) (ha : at_ ≤ 9223372036854775807) {r : Rc} (hk : r.ok) {A : Option Addr} {n c : Nat} (hb : Bs w A n c r.data) (hns : r.name.length ≤ 140737488355328) (hts : r.target.length ≤ 140737488355328) (t0 : 0 ≤ r.ttl) (t1 : r.ttl < 4294967296) (q : Qs) (hqs : q.name.length ≤ 140737488355328) (hE : Env w) (hg : Handle w) :
    Calls Tryz.prog 3 #[.slice A1 n1 c1, .int .i64 at_, .agg (rcv r A n c), .agg (qsv q)] w fun e w' => e = .returned (.bool true) ∧ Below w.heap.size w w' := by
  have a1 := RcBox.new w hk A n c
  have b1 : Below w.heap.size w (w.alloc (.cells (rcv r A n c) 28)) := (Below.refl _ _).alloc (Nat.le_refl _) _
  have a2 := QsBox.new (w.alloc (.cells (rcv r A n c) 28)) q
  rw [World.size_alloc] at a2
  have b2 : Below (w.heap.size + 1) (w.alloc (.cells (rcv r A n c) 28)) ((w.alloc (.cells (rcv r A n c) 28)).alloc (.cells (qsv q) 30)) := (Below.refl _ _).alloc (by simp) _
  have hA := And.intro (a1.later b2 (by simp)) (And.intro a2 (b1.trans (b2.mono (by omega))))
  obtain ⟨W, hW⟩ : ∃ W, (w.alloc (.cells (rcv r A n c) 28)).alloc (.cells (qsv q) 30) = W := ⟨_, rfl⟩
  rw [hW] at hA
  have HW := Lib.hid hW
  have HB := Lib.hid (And.intro hb1 (And.intro hb (And.intro hE hg)))
  have hlen := hb.len
  have d0 := hA.1.name
  have d5 := hA.1.target
  have d6 := hA.1.data
  have q0 : W.cell? ⟨w.heap.size + 1, 0, none⟩ = some (.string (mkS q.name)) := hA.2.1.cell 0
  have s0 := mkS_size r.name
  have s1 := mkS_size r.target
  have s2 := mkS_size q.name
  obtain ⟨p0, hp0⟩ : ∃ p, (mkS r.name).size = p := ⟨_, rfl⟩
  obtain ⟨p1, hp1⟩ : ∃ p, (mkS r.target).size = p := ⟨_, rfl⟩
  obtain ⟨p2, hp2⟩ : ∃ p, (mkS q.name).size = p := ⟨_, rfl⟩
  have HA := Lib.hid hA
  have hm := Nat.le_trans hb1.cap hb1.max
  unfold maxLen at hm
  have hm2 := Nat.le_trans hb.cap hb.max
  unfold maxLen at hm2
  have hhE := hE
  clear a1 b1 a2 b2 hA hW hE hg hb1 hb
  by_cases g1 : 1500 < n1
  case pos =>
    --<< g1
    have g1d : decide ((1500 : Int) < (n1 : Int)) = true := decide_eq_true (by omega)
    go_enter Tryz.func3, Tryz.ntmps3
    go_wp2_with (rw [HW.out])
    refine (awake13 (Env.later HB.out.2.2.1 HA.out.2.2 (Nat.le_refl _))).mono ?_
    rintro e w1 ⟨rfl, b1⟩
    have H1 := Lib.hid (HA.out.2.2.trans (b1.mono HA.out.2.2.size))
    clear b1
    go_wp2_with fail
    go_ret
    exact ⟨rfl, H1.out⟩
    -->>
  have g1d : decide ((1500 : Int) < (n1 : Int)) = false := decide_eq_false (by omega)
  by_cases g2 : 1500 < n
  case pos =>
    --<< g2
    have g2d : decide ((1500 : Int) < (n : Int)) = true := decide_eq_true (by omega)
    go_enter Tryz.func3, Tryz.ntmps3
    go_wp2_with (rw [HW.out])
    refine (awake13 (Env.later HB.out.2.2.1 HA.out.2.2 (Nat.le_refl _))).mono ?_
    rintro e w1 ⟨rfl, b1⟩
    have H1 := Lib.hid (HA.out.2.2.trans (b1.mono HA.out.2.2.size))
    clear b1
    go_wp2_with fail
    go_ret
    exact ⟨rfl, H1.out⟩
    -->>
  have g2d : decide ((1500 : Int) < (n : Int)) = false := decide_eq_false (by omega)
  rw [hp0] at s0
  rw [hp1] at s1
  rw [hp2] at s2
  rw [← s0] at hns
  rw [← s1] at hts
  rw [← s2] at hqs
  have i1 : IntKind.i64.wrap ((p0 : Int) + p1) = (p0 : Int) + p1 := IntWalk.i64_in _ (by omega)
  have i2 : IntKind.i64.wrap ((p0 : Int) + p1 + p2) = (p0 : Int) + p1 + p2 := IntWalk.i64_in _ (by omega)
  by_cases g3 : 1500 < p0 + p1 + p2
  case pos =>
    --<< g3
    have g3d : decide ((1500 : Int) < (p0 : Int) + p1 + p2) = true := decide_eq_true (by omega)
    go_enter Tryz.func3, Tryz.ntmps3
    go_wp2_with (rw [HW.out])
    refine (awake13 (Env.later HB.out.2.2.1 HA.out.2.2 (Nat.le_refl _))).mono ?_
    rintro e w1 ⟨rfl, b1⟩
    have H1 := Lib.hid (HA.out.2.2.trans (b1.mono HA.out.2.2.size))
    clear b1
    go_wp2_with fail
    go_ret
    exact ⟨rfl, H1.out⟩
    -->>
  have g3d : decide ((1500 : Int) < (p0 : Int) + p1 + p2) = false := decide_eq_false (by omega)
  --<< d
  have hnm : r.name.length ≤ 1500 := by omega
  have htm : r.target.length ≤ 1500 := by omega
  have hqm : q.name.length ≤ 1500 := by omega
  clear s0 s1 s2 hns hts hqs
  have KQ := Lib.hid (fun (x : World) (hx : Below w.heap.size w x) => readQ_any (HB.out.1.later hx (Nat.le_refl _)) (by omega) at_ ha)
  have KQr := Lib.hid (fun (x : World) (hx : Below w.heap.size w x) => ref_readQ (HB.out.1.later hx (Nat.le_refl _)) (by omega) at_ ha)
  have KR := Lib.hid (fun (x : World) (hx : Below w.heap.size w x) => readR_any (HB.out.1.later hx (Nat.le_refl _)) (by omega) at_ ha (Handle.later hx (Nat.le_refl _) HB.out.2.2.2))
  have KRr := Lib.hid (fun (x : World) (hx : Below w.heap.size w x) => ref_readR (HB.out.1.later hx (Nat.le_refl _)) (by omega) at_ ha)
  have KW := Lib.hid (fun (x : World) (hx : Below w.heap.size w x) => writeR_any hk (HB.out.2.1.later hx (Nat.le_refl _)) (by omega) (by omega) t0 t1 (Env.later HB.out.2.2.1 hx (Nat.le_refl _)))
  have KWr := Lib.hid (fun (x : World) (hx : Below w.heap.size w x) => ref_writeR hk (HB.out.2.1.later hx (Nat.le_refl _)) (by omega) (by omega) t0 t1)
  have KV := Lib.hid (fun (x : World) (hx : Below w.heap.size w x) => writeQ_any q (by omega) (Env.later HB.out.2.2.1 hx (Nat.le_refl _)))
  have KVr := Lib.hid (fun (x : World) => ref_writeQ q (by omega) x)
  have KT := Lib.hid (fun (x : World) (hx : Below w.heap.size w x) => rightR_any hk (HB.out.2.1.later hx (Nat.le_refl _)) (by omega) (by omega) (Env.later HB.out.2.2.1 hx (Nat.le_refl _)))
  have KTr := Lib.hid (fun (x : World) (hx : Below w.heap.size w x) => ref_rightR hk (HB.out.2.1.later hx (Nat.le_refl _)) (by omega) (by omega))
  unfold ReadQR at KQ
  unfold RefQ at KQr
  unfold ReadRR at KR
  unfold RefRr at KRr
  unfold RefB at KWr KVr
  generalize readQv l n1 at_ = rq at KQ KQr
  have hrok : (readRv l n1 at_).r.ok := readRv_ok HB.out.1.len at_
  generalize readRv l n1 at_ = rr at KR KRr hrok
  have HRK := Lib.hid hrok
  generalize writeRv r = wr at KW KWr
  generalize writeRe r = we at KW KWr
  generalize writeQv q = vr at KV KVr
  generalize writeQe q = ve at KV KVr
  generalize decide (rightR r) = dr at KT KTr
  clear hrok
  have HA0 := Lib.hid (And.intro HA.out.1 (And.intro HA.out.2.1 HA.out.2.2))
  go_enter Tryz.func3, Tryz.ntmps3
  go_wp2_with (rw [HW.out])
  refine (KQ.out _ HA0.out.2.2).mono ?_
  rintro e w1 ⟨vq, rfl, tq, bk⟩
  have H1 := Lib.hid (And.intro (HA0.out.1.later bk (Nat.le_refl _)) (And.intro (HA0.out.2.1.later bk (Nat.le_refl _)) (And.intro (tq) (HA0.out.2.2.trans (Below.mono bk HA0.out.2.2.size)))))
  clear bk tq
  go_wp2_with (first
    | (refine wpList_store_qs rfl (.tmp 9) (.tmp 57) rfl rq.q rfl rfl HX2.out.1 ?_; intro y2 aa oo zz gg; have HY2 := Lib.hid (gg _ _ (Nat.le_refl _) HX2.out.2); have H2 := Lib.hid (And.intro (H1.out.1.later HY2.out (Nat.le_refl _)) (And.intro (H1.out.2.1.later HY2.out (Nat.le_refl _)) (And.intro (H1.out.2.2.1.later HY2.out (Nat.le_refl _)) (And.intro (aa) (H1.out.2.2.2.trans (Below.mono HY2.out H1.out.2.2.2.size)))))); clear aa oo zz gg)
    | (refine wpList_alloc_qs rfl rfl ?_; intro x2 aa bb zz; have HX2 := Lib.hid (And.intro aa bb); clear aa bb zz))
  refine (KQr.out _ H2.out.2.2.2.2).mono ?_
  rintro e w3 ⟨rfl, bk⟩
  have H3 := Lib.hid (And.intro (H2.out.1.later bk (Nat.le_refl _)) (And.intro (H2.out.2.1.later bk (Nat.le_refl _)) (And.intro (H2.out.2.2.1.later bk (Nat.le_refl _)) (And.intro (H2.out.2.2.2.1.later bk (Nat.le_refl _)) (H2.out.2.2.2.2.trans (Below.mono bk H2.out.2.2.2.2.size))))))
  clear bk
  go_wp2_with (first
    | (refine wpList_store_fl rfl (.tmp 14) (.tmp 66) rfl rq.f.code rq.f.at_ rq.f.placed rfl rfl HZ4.out.2.1 ?_; intro v4 aa oo zz gg; have HV4 := Lib.hid (And.intro (HZ4.out.1.same (oo _ (Nat.ne_of_lt HL4.out))) (And.intro aa (gg _ _ (Nat.le_of_lt HL4.out) HZ4.out.2.2))); have H4 := Lib.hid (And.intro (H3.out.1.later HV4.out.2.2 (Nat.le_refl _)) (And.intro (H3.out.2.1.later HV4.out.2.2 (Nat.le_refl _)) (And.intro (H3.out.2.2.1.later HV4.out.2.2 (Nat.le_refl _)) (And.intro (H3.out.2.2.2.1.later HV4.out.2.2 (Nat.le_refl _)) (And.intro (HV4.out.1) (And.intro (HV4.out.2.1) (H3.out.2.2.2.2.trans (Below.mono HV4.out.2.2 H3.out.2.2.2.2.size)))))))); clear aa oo zz gg)
    | (refine wpList_store_qs rfl (.tmp 12) (.tmp 64) rfl rq.q rfl rfl HY4.out.1 ?_; intro z4 aa oo zz gg; have HZ4 := Lib.hid (And.intro aa (And.intro (HY4.out.2.1.same (oo _ (Ne.symm (Nat.ne_of_lt HL4.out)))) (gg _ _ (Nat.le_refl _) HY4.out.2.2))); clear aa oo zz gg)
    | (refine wpList_alloc_fl rfl rfl ?_; intro y4 aa bb zz; have HY4 := Lib.hid (And.intro (HX4.out.1.later bb (Nat.le_refl _)) (And.intro aa (HX4.out.2.trans (bb.mono HX4.out.2.size)))); have HL4 := Lib.hid HX4.out.1.lt; clear aa bb zz)
    | (refine wpList_alloc_qs rfl rfl ?_; intro x4 aa bb zz; have HX4 := Lib.hid (And.intro aa bb); clear aa bb zz))
  refine (KR.out _ H4.out.2.2.2.2.2.2).mono ?_
  rintro e w5 ⟨A5, n5, c5, vr5, rfl, B5, tr, bk⟩
  have H5 := Lib.hid (And.intro (H4.out.1.later bk (Nat.le_refl _)) (And.intro (H4.out.2.1.later bk (Nat.le_refl _)) (And.intro (H4.out.2.2.1.later bk (Nat.le_refl _)) (And.intro (H4.out.2.2.2.1.later bk (Nat.le_refl _)) (And.intro (H4.out.2.2.2.2.1.later bk (Nat.le_refl _)) (And.intro (H4.out.2.2.2.2.2.1.later bk (Nat.le_refl _)) (And.intro (B5) (And.intro (tr) (H4.out.2.2.2.2.2.2.trans (Below.mono bk H4.out.2.2.2.2.2.2.size))))))))))
  clear bk B5 tr
  go_wp2_with (first
    | (refine wpList_store_rc rfl (.tmp 15) (.tmp 71) rfl rr.r A5 n5 c5 rfl rfl HRK.out HX6.out.1 ?_; intro y6 aa oo zz gg; have HY6 := Lib.hid (gg _ _ (Nat.le_refl _) HX6.out.2); have H6 := Lib.hid (And.intro (H5.out.1.later HY6.out (Nat.le_refl _)) (And.intro (H5.out.2.1.later HY6.out (Nat.le_refl _)) (And.intro (H5.out.2.2.1.later HY6.out (Nat.le_refl _)) (And.intro (H5.out.2.2.2.1.later HY6.out (Nat.le_refl _)) (And.intro (H5.out.2.2.2.2.1.later HY6.out (Nat.le_refl _)) (And.intro (H5.out.2.2.2.2.2.1.later HY6.out (Nat.le_refl _)) (And.intro (H5.out.2.2.2.2.2.2.1.later HY6.out (Nat.le_refl _)) (And.intro (H5.out.2.2.2.2.2.2.2.1.later HY6.out (Nat.le_refl _)) (And.intro (aa) (H5.out.2.2.2.2.2.2.2.2.trans (Below.mono HY6.out H5.out.2.2.2.2.2.2.2.2.size))))))))))); clear aa oo zz gg)
    | (refine wpList_alloc_rc rfl rfl ?_; intro x6 aa bb zz; have HX6 := Lib.hid (And.intro aa bb); clear aa bb zz))
  refine (KRr.out _ H6.out.2.2.2.2.2.2.2.2.2).mono ?_
  rintro e w7 ⟨A7, n7, c7, rfl, B7, _, bk⟩
  have H7 := Lib.hid (And.intro (H6.out.1.later bk (Nat.le_refl _)) (And.intro (H6.out.2.1.later bk (Nat.le_refl _)) (And.intro (H6.out.2.2.1.later bk (Nat.le_refl _)) (And.intro (H6.out.2.2.2.1.later bk (Nat.le_refl _)) (And.intro (H6.out.2.2.2.2.1.later bk (Nat.le_refl _)) (And.intro (H6.out.2.2.2.2.2.1.later bk (Nat.le_refl _)) (And.intro (H6.out.2.2.2.2.2.2.1.later bk (Nat.le_refl _)) (And.intro (H6.out.2.2.2.2.2.2.2.1.later bk (Nat.le_refl _)) (And.intro (H6.out.2.2.2.2.2.2.2.2.1.later bk (Nat.le_refl _)) (And.intro (B7) (H6.out.2.2.2.2.2.2.2.2.2.trans (Below.mono bk H6.out.2.2.2.2.2.2.2.2.2.size))))))))))))
  clear bk B7
  go_wp2_with (first
    | (refine wpList_load_rc rfl (.tmp 6) rfl rfl H8.out.1 ?_)
    | (refine wpList_store_fl rfl (.tmp 20) (.tmp 80) rfl rr.f.code rr.f.at_ rr.f.placed rfl rfl HZ8.out.2.1 ?_; intro v8 aa oo zz gg; have HV8 := Lib.hid (And.intro (HZ8.out.1.same (oo _ (Nat.ne_of_lt HL8.out))) (And.intro aa (gg _ _ (Nat.le_of_lt HL8.out) HZ8.out.2.2))); have H8 := Lib.hid (And.intro (H7.out.1.later HV8.out.2.2 (Nat.le_refl _)) (And.intro (H7.out.2.1.later HV8.out.2.2 (Nat.le_refl _)) (And.intro (H7.out.2.2.1.later HV8.out.2.2 (Nat.le_refl _)) (And.intro (H7.out.2.2.2.1.later HV8.out.2.2 (Nat.le_refl _)) (And.intro (H7.out.2.2.2.2.1.later HV8.out.2.2 (Nat.le_refl _)) (And.intro (H7.out.2.2.2.2.2.1.later HV8.out.2.2 (Nat.le_refl _)) (And.intro (H7.out.2.2.2.2.2.2.1.later HV8.out.2.2 (Nat.le_refl _)) (And.intro (H7.out.2.2.2.2.2.2.2.1.later HV8.out.2.2 (Nat.le_refl _)) (And.intro (H7.out.2.2.2.2.2.2.2.2.1.later HV8.out.2.2 (Nat.le_refl _)) (And.intro (H7.out.2.2.2.2.2.2.2.2.2.1.later HV8.out.2.2 (Nat.le_refl _)) (And.intro (HV8.out.1) (And.intro (HV8.out.2.1) (H7.out.2.2.2.2.2.2.2.2.2.2.trans (Below.mono HV8.out.2.2 H7.out.2.2.2.2.2.2.2.2.2.2.size)))))))))))))); clear aa oo zz gg)
    | (refine wpList_store_rc rfl (.tmp 18) (.tmp 78) rfl rr.r A7 n7 c7 rfl rfl HRK.out HY8.out.1 ?_; intro z8 aa oo zz gg; have HZ8 := Lib.hid (And.intro aa (And.intro (HY8.out.2.1.same (oo _ (Ne.symm (Nat.ne_of_lt HL8.out)))) (gg _ _ (Nat.le_refl _) HY8.out.2.2))); clear aa oo zz gg)
    | (refine wpList_alloc_fl rfl rfl ?_; intro y8 aa bb zz; have HY8 := Lib.hid (And.intro (HX8.out.1.later bb (Nat.le_refl _)) (And.intro aa (HX8.out.2.trans (bb.mono HX8.out.2.size)))); have HL8 := Lib.hid HX8.out.1.lt; clear aa bb zz)
    | (refine wpList_alloc_rc rfl rfl ?_; intro x8 aa bb zz; have HX8 := Lib.hid (And.intro aa bb); clear aa bb zz))
  refine (KW.out _ H8.out.2.2.2.2.2.2.2.2.2.2.2.2).mono ?_
  rintro e w9 ⟨A9, c9, v9, rfl, B9, tw, bk⟩
  have H9 := Lib.hid (And.intro (H8.out.1.later bk (Nat.le_refl _)) (And.intro (H8.out.2.1.later bk (Nat.le_refl _)) (And.intro (H8.out.2.2.1.later bk (Nat.le_refl _)) (And.intro (H8.out.2.2.2.1.later bk (Nat.le_refl _)) (And.intro (H8.out.2.2.2.2.1.later bk (Nat.le_refl _)) (And.intro (H8.out.2.2.2.2.2.1.later bk (Nat.le_refl _)) (And.intro (H8.out.2.2.2.2.2.2.1.later bk (Nat.le_refl _)) (And.intro (H8.out.2.2.2.2.2.2.2.1.later bk (Nat.le_refl _)) (And.intro (H8.out.2.2.2.2.2.2.2.2.1.later bk (Nat.le_refl _)) (And.intro (H8.out.2.2.2.2.2.2.2.2.2.1.later bk (Nat.le_refl _)) (And.intro (H8.out.2.2.2.2.2.2.2.2.2.2.1.later bk (Nat.le_refl _)) (And.intro (H8.out.2.2.2.2.2.2.2.2.2.2.2.1.later bk (Nat.le_refl _)) (And.intro (B9) (And.intro (tw) (H8.out.2.2.2.2.2.2.2.2.2.2.2.2.trans (Below.mono bk H8.out.2.2.2.2.2.2.2.2.2.2.2.2.size))))))))))))))))
  clear bk B9 tw
  go_wp2_with (refine wpList_load_rc rfl (.tmp 6) rfl rfl H9.out.1 ?_)
  refine (KWr.out _ H9.out.2.2.2.2.2.2.2.2.2.2.2.2.2.2).mono ?_
  rintro e w10 ⟨A10, n10, c10, rfl, B10, _, bk⟩
  have H10 := Lib.hid (And.intro (H9.out.1.later bk (Nat.le_refl _)) (And.intro (H9.out.2.1.later bk (Nat.le_refl _)) (And.intro (H9.out.2.2.1.later bk (Nat.le_refl _)) (And.intro (H9.out.2.2.2.1.later bk (Nat.le_refl _)) (And.intro (H9.out.2.2.2.2.1.later bk (Nat.le_refl _)) (And.intro (H9.out.2.2.2.2.2.1.later bk (Nat.le_refl _)) (And.intro (H9.out.2.2.2.2.2.2.1.later bk (Nat.le_refl _)) (And.intro (H9.out.2.2.2.2.2.2.2.1.later bk (Nat.le_refl _)) (And.intro (H9.out.2.2.2.2.2.2.2.2.1.later bk (Nat.le_refl _)) (And.intro (H9.out.2.2.2.2.2.2.2.2.2.1.later bk (Nat.le_refl _)) (And.intro (H9.out.2.2.2.2.2.2.2.2.2.2.1.later bk (Nat.le_refl _)) (And.intro (H9.out.2.2.2.2.2.2.2.2.2.2.2.1.later bk (Nat.le_refl _)) (And.intro (H9.out.2.2.2.2.2.2.2.2.2.2.2.2.1.later bk (Nat.le_refl _)) (And.intro (H9.out.2.2.2.2.2.2.2.2.2.2.2.2.2.1.later bk (Nat.le_refl _)) (And.intro (B10) (H9.out.2.2.2.2.2.2.2.2.2.2.2.2.2.2.trans (Below.mono bk H9.out.2.2.2.2.2.2.2.2.2.2.2.2.2.2.size)))))))))))))))))
  clear bk B10
  have h10 : n10 = wr.length := H10.out.2.2.2.2.2.2.2.2.2.2.2.2.2.2.1.len.symm
  subst h10
  go_wp2_with (first
    | (refine wpList_load_qs rfl (.tmp 7) rfl rfl H11.out.2.1 ?_)
    | (refine wpList_store_fl rfl (.tmp 24) (.tmp 90) rfl we.code we.at_ we.placed rfl rfl HX11.out.1 ?_; intro y11 aa oo zz gg; have HY11 := Lib.hid (gg _ _ (Nat.le_refl _) HX11.out.2); have H11 := Lib.hid (And.intro (H10.out.1.later HY11.out (Nat.le_refl _)) (And.intro (H10.out.2.1.later HY11.out (Nat.le_refl _)) (And.intro (H10.out.2.2.1.later HY11.out (Nat.le_refl _)) (And.intro (H10.out.2.2.2.1.later HY11.out (Nat.le_refl _)) (And.intro (H10.out.2.2.2.2.1.later HY11.out (Nat.le_refl _)) (And.intro (H10.out.2.2.2.2.2.1.later HY11.out (Nat.le_refl _)) (And.intro (H10.out.2.2.2.2.2.2.1.later HY11.out (Nat.le_refl _)) (And.intro (H10.out.2.2.2.2.2.2.2.1.later HY11.out (Nat.le_refl _)) (And.intro (H10.out.2.2.2.2.2.2.2.2.1.later HY11.out (Nat.le_refl _)) (And.intro (H10.out.2.2.2.2.2.2.2.2.2.1.later HY11.out (Nat.le_refl _)) (And.intro (H10.out.2.2.2.2.2.2.2.2.2.2.1.later HY11.out (Nat.le_refl _)) (And.intro (H10.out.2.2.2.2.2.2.2.2.2.2.2.1.later HY11.out (Nat.le_refl _)) (And.intro (H10.out.2.2.2.2.2.2.2.2.2.2.2.2.1.later HY11.out (Nat.le_refl _)) (And.intro (H10.out.2.2.2.2.2.2.2.2.2.2.2.2.2.1.later HY11.out (Nat.le_refl _)) (And.intro (H10.out.2.2.2.2.2.2.2.2.2.2.2.2.2.2.1.later HY11.out (Nat.le_refl _)) (And.intro (aa) (H10.out.2.2.2.2.2.2.2.2.2.2.2.2.2.2.2.trans (Below.mono HY11.out H10.out.2.2.2.2.2.2.2.2.2.2.2.2.2.2.2.size)))))))))))))))))); clear aa oo zz gg)
    | (refine wpList_alloc_fl rfl rfl ?_; intro x11 aa bb zz; have HX11 := Lib.hid (And.intro aa bb); clear aa bb zz))
  refine (KV.out _ H11.out.2.2.2.2.2.2.2.2.2.2.2.2.2.2.2.2).mono ?_
  rintro e w12 ⟨A12, c12, v12, rfl, B12, tv, bk⟩
  have H12 := Lib.hid (And.intro (H11.out.1.later bk (Nat.le_refl _)) (And.intro (H11.out.2.1.later bk (Nat.le_refl _)) (And.intro (H11.out.2.2.1.later bk (Nat.le_refl _)) (And.intro (H11.out.2.2.2.1.later bk (Nat.le_refl _)) (And.intro (H11.out.2.2.2.2.1.later bk (Nat.le_refl _)) (And.intro (H11.out.2.2.2.2.2.1.later bk (Nat.le_refl _)) (And.intro (H11.out.2.2.2.2.2.2.1.later bk (Nat.le_refl _)) (And.intro (H11.out.2.2.2.2.2.2.2.1.later bk (Nat.le_refl _)) (And.intro (H11.out.2.2.2.2.2.2.2.2.1.later bk (Nat.le_refl _)) (And.intro (H11.out.2.2.2.2.2.2.2.2.2.1.later bk (Nat.le_refl _)) (And.intro (H11.out.2.2.2.2.2.2.2.2.2.2.1.later bk (Nat.le_refl _)) (And.intro (H11.out.2.2.2.2.2.2.2.2.2.2.2.1.later bk (Nat.le_refl _)) (And.intro (H11.out.2.2.2.2.2.2.2.2.2.2.2.2.1.later bk (Nat.le_refl _)) (And.intro (H11.out.2.2.2.2.2.2.2.2.2.2.2.2.2.1.later bk (Nat.le_refl _)) (And.intro (H11.out.2.2.2.2.2.2.2.2.2.2.2.2.2.2.1.later bk (Nat.le_refl _)) (And.intro (H11.out.2.2.2.2.2.2.2.2.2.2.2.2.2.2.2.1.later bk (Nat.le_refl _)) (And.intro (B12) (And.intro (tv) (H11.out.2.2.2.2.2.2.2.2.2.2.2.2.2.2.2.2.trans (Below.mono bk H11.out.2.2.2.2.2.2.2.2.2.2.2.2.2.2.2.2.size))))))))))))))))))))
  clear bk B12 tv
  go_wp2_with (refine wpList_load_qs rfl (.tmp 7) rfl rfl H12.out.2.1 ?_)
  refine (KVr.out _).mono ?_
  rintro e w13 ⟨A13, n13, c13, rfl, B13, _, bk⟩
  have H13 := Lib.hid (And.intro (H12.out.1.later bk (Nat.le_refl _)) (And.intro (H12.out.2.1.later bk (Nat.le_refl _)) (And.intro (H12.out.2.2.1.later bk (Nat.le_refl _)) (And.intro (H12.out.2.2.2.1.later bk (Nat.le_refl _)) (And.intro (H12.out.2.2.2.2.1.later bk (Nat.le_refl _)) (And.intro (H12.out.2.2.2.2.2.1.later bk (Nat.le_refl _)) (And.intro (H12.out.2.2.2.2.2.2.1.later bk (Nat.le_refl _)) (And.intro (H12.out.2.2.2.2.2.2.2.1.later bk (Nat.le_refl _)) (And.intro (H12.out.2.2.2.2.2.2.2.2.1.later bk (Nat.le_refl _)) (And.intro (H12.out.2.2.2.2.2.2.2.2.2.1.later bk (Nat.le_refl _)) (And.intro (H12.out.2.2.2.2.2.2.2.2.2.2.1.later bk (Nat.le_refl _)) (And.intro (H12.out.2.2.2.2.2.2.2.2.2.2.2.1.later bk (Nat.le_refl _)) (And.intro (H12.out.2.2.2.2.2.2.2.2.2.2.2.2.1.later bk (Nat.le_refl _)) (And.intro (H12.out.2.2.2.2.2.2.2.2.2.2.2.2.2.1.later bk (Nat.le_refl _)) (And.intro (H12.out.2.2.2.2.2.2.2.2.2.2.2.2.2.2.1.later bk (Nat.le_refl _)) (And.intro (H12.out.2.2.2.2.2.2.2.2.2.2.2.2.2.2.2.1.later bk (Nat.le_refl _)) (And.intro (H12.out.2.2.2.2.2.2.2.2.2.2.2.2.2.2.2.2.1.later bk (Nat.le_refl _)) (And.intro (H12.out.2.2.2.2.2.2.2.2.2.2.2.2.2.2.2.2.2.1.later bk (Nat.le_refl _)) (And.intro (B13) (H12.out.2.2.2.2.2.2.2.2.2.2.2.2.2.2.2.2.2.2.trans (Below.mono bk H12.out.2.2.2.2.2.2.2.2.2.2.2.2.2.2.2.2.2.2.size)))))))))))))))))))))
  clear bk B13
  have h13 : n13 = vr.length := H13.out.2.2.2.2.2.2.2.2.2.2.2.2.2.2.2.2.2.2.1.len.symm
  subst h13
  go_wp2_with (first
    | (refine wpList_store_fl rfl (.tmp 28) (.tmp 100) rfl ve.code ve.at_ ve.placed rfl rfl HX14.out.1 ?_; intro y14 aa oo zz gg; have HY14 := Lib.hid (gg _ _ (Nat.le_refl _) HX14.out.2); have H14 := Lib.hid (And.intro (H13.out.1.later HY14.out (Nat.le_refl _)) (And.intro (H13.out.2.1.later HY14.out (Nat.le_refl _)) (And.intro (H13.out.2.2.1.later HY14.out (Nat.le_refl _)) (And.intro (H13.out.2.2.2.1.later HY14.out (Nat.le_refl _)) (And.intro (H13.out.2.2.2.2.1.later HY14.out (Nat.le_refl _)) (And.intro (H13.out.2.2.2.2.2.1.later HY14.out (Nat.le_refl _)) (And.intro (H13.out.2.2.2.2.2.2.1.later HY14.out (Nat.le_refl _)) (And.intro (H13.out.2.2.2.2.2.2.2.1.later HY14.out (Nat.le_refl _)) (And.intro (H13.out.2.2.2.2.2.2.2.2.1.later HY14.out (Nat.le_refl _)) (And.intro (H13.out.2.2.2.2.2.2.2.2.2.1.later HY14.out (Nat.le_refl _)) (And.intro (H13.out.2.2.2.2.2.2.2.2.2.2.1.later HY14.out (Nat.le_refl _)) (And.intro (H13.out.2.2.2.2.2.2.2.2.2.2.2.1.later HY14.out (Nat.le_refl _)) (And.intro (H13.out.2.2.2.2.2.2.2.2.2.2.2.2.1.later HY14.out (Nat.le_refl _)) (And.intro (H13.out.2.2.2.2.2.2.2.2.2.2.2.2.2.1.later HY14.out (Nat.le_refl _)) (And.intro (H13.out.2.2.2.2.2.2.2.2.2.2.2.2.2.2.1.later HY14.out (Nat.le_refl _)) (And.intro (H13.out.2.2.2.2.2.2.2.2.2.2.2.2.2.2.2.1.later HY14.out (Nat.le_refl _)) (And.intro (H13.out.2.2.2.2.2.2.2.2.2.2.2.2.2.2.2.2.1.later HY14.out (Nat.le_refl _)) (And.intro (H13.out.2.2.2.2.2.2.2.2.2.2.2.2.2.2.2.2.2.1.later HY14.out (Nat.le_refl _)) (And.intro (H13.out.2.2.2.2.2.2.2.2.2.2.2.2.2.2.2.2.2.2.1.later HY14.out (Nat.le_refl _)) (And.intro (aa) (H13.out.2.2.2.2.2.2.2.2.2.2.2.2.2.2.2.2.2.2.2.trans (Below.mono HY14.out H13.out.2.2.2.2.2.2.2.2.2.2.2.2.2.2.2.2.2.2.2.size)))))))))))))))))))))); clear aa oo zz gg)
    | (refine wpList_alloc_fl rfl rfl ?_; intro x14 aa bb zz; have HX14 := Lib.hid (And.intro aa bb); clear aa bb zz))
  have heq := eql_qs rq.q
  have hS : Below y14.heap.size y14 y14.drew := (Below.refl _ _).drew
  refine rg_begin (fun w' => Below y14.heap.size y14 w') 59 (by kernel_rfl) rfl ?_
  refine rg_step 0 rfl (by kernel_rfl) (by rfl) (fun K hK => ?_)
  go_simp
  refine (awake13 (Env.later HB.out.2.2.1 (H14.out.2.2.2.2.2.2.2.2.2.2.2.2.2.2.2.2.2.2.2.2.trans (Below.mono hS H14.out.2.2.2.2.2.2.2.2.2.2.2.2.2.2.2.2.2.2.2.2.size)) (Nat.le_refl _))).mono ?_
  rintro e w' ⟨rfl, bk⟩
  replace hS := hS.trans (bk.mono hS.size)
  clear bk
  refine hK.out _ _ hS ?_
  clear hK K
  try simp only [Act.put, List.setIfInBounds_toArray, List.set_cons_zero, List.set_cons_succ]
  refine rg_take 1 (v := ?rv1) rfl (by kernel_rfl) (by kernel_rfl) (by kernel_rfl) (fun _ _ _ h => h) (by rfl) hS (fun w2 hw2 => ?ry1) ?rr1
  case ry1 => ((try dsimp only at hw2); go_simp <;> with_reducible rfl)
  simp only [Act.put, List.setIfInBounds_toArray, List.set_cons_zero, List.set_cons_succ]
  refine rg_load 2 rfl (by kernel_rfl) (by kernel_rfl) (by kernel_rfl) (w1.heap.size) (0) ((qsv rq.q)) (fun _ _ _ h => h) (by rfl) 30 (.tmp 9) rfl rfl hS (fun w2 h2 => (H14.out.2.2.2.1.later h2 (Nat.le_refl _)).range) Tryz.underlying30 rfl (qs_size _) ?_
  simp only [Act.put, List.setIfInBounds_toArray, List.set_cons_zero, List.set_cons_succ]
  refine rg_load 3 rfl (by kernel_rfl) (by kernel_rfl) (by kernel_rfl) (w3.heap.size) (0) ((qsv rq.q)) (fun _ _ _ h => h) (by rfl) 30 (.tmp 12) rfl rfl hS (fun w2 h2 => (H14.out.2.2.2.2.1.later h2 (Nat.le_refl _)).range) Tryz.underlying30 rfl (qs_size _) ?_
  simp only [Act.put, List.setIfInBounds_toArray, List.set_cons_zero, List.set_cons_succ]
  refine rg_take 4 (v := ?rv2) rfl (by kernel_rfl) (by kernel_rfl) (by kernel_rfl) (fun _ _ _ h => h) (by rfl) hS (fun w2 hw2 => ?ry2) ?rr2
  case ry2 => ((try dsimp only at hw2); go_simp <;> with_reducible rfl)
  simp only [Act.put, List.setIfInBounds_toArray, List.set_cons_zero, List.set_cons_succ]
  refine rg_take 5 (v := ?rv3) rfl (by kernel_rfl) (by kernel_rfl) (by kernel_rfl) (fun _ _ _ h => h) (by rfl) hS (fun w2 hw2 => ?ry3) ?rr3
  case ry3 => ((try dsimp only at hw2); go_simp <;> with_reducible rfl)
  simp only [Act.put, List.setIfInBounds_toArray, List.set_cons_zero, List.set_cons_succ]
  refine rg_take 6 (v := ?rv4) rfl (by kernel_rfl) (by kernel_rfl) (by kernel_rfl) (fun _ _ _ h => h) (by rfl) hS (fun w2 hw2 => ?ry4) ?rr4
  case ry4 => ((try dsimp only at hw2); go_simp <;> with_reducible rfl)
  simp only [Act.put, List.setIfInBounds_toArray, List.set_cons_zero, List.set_cons_succ]
  refine rg_take 7 (v := ?rv5) rfl (by kernel_rfl) (by kernel_rfl) (by kernel_rfl) (fun _ _ _ h => h) (by rfl) hS (fun w2 hw2 => ?ry5) ?rr5
  case ry5 => ((try dsimp only at hw2); go_simp <;> with_reducible rfl)
  simp only [Act.put, List.setIfInBounds_toArray, List.set_cons_zero, List.set_cons_succ]
  refine rg_take 8 (v := ?rv6) rfl (by kernel_rfl) (by kernel_rfl) (by kernel_rfl) (fun _ _ _ h => h) (by rfl) hS (fun w2 hw2 => ?ry6) ?rr6
  case ry6 => ((try dsimp only at hw2); go_simp <;> with_reducible rfl)
  simp only [Act.put, List.setIfInBounds_toArray, List.set_cons_zero, List.set_cons_succ]
  refine rg_take 9 (v := ?rv7) rfl (by kernel_rfl) (by kernel_rfl) (by kernel_rfl) (fun _ _ _ h => h) (by rfl) hS (fun w2 hw2 => ?ry7) ?rr7
  case ry7 => ((try dsimp only at hw2); go_simp <;> with_reducible rfl)
  simp only [Act.put, List.setIfInBounds_toArray, List.set_cons_zero, List.set_cons_succ]
  refine rg_take 10 (v := ?rv8) rfl (by kernel_rfl) (by kernel_rfl) (by kernel_rfl) (fun _ _ _ h => h) (by rfl) hS (fun w2 hw2 => ?ry8) ?rr8
  case ry8 => ((try dsimp only at hw2); go_simp <;> with_reducible rfl)
  simp only [Act.put, List.setIfInBounds_toArray, List.set_cons_zero, List.set_cons_succ]
  refine rg_take 11 (v := ?rv9) rfl (by kernel_rfl) (by kernel_rfl) (by kernel_rfl) (fun _ _ _ h => h) (by rfl) hS (fun w2 hw2 => ?ry9) ?rr9
  case ry9 => ((try dsimp only at hw2); go_simp <;> with_reducible rfl)
  simp only [Act.put, List.setIfInBounds_toArray, List.set_cons_zero, List.set_cons_succ]
  refine rg_take 12 (v := ?rv10) rfl (by kernel_rfl) (by kernel_rfl) (by kernel_rfl) (fun _ _ _ h => h) (by rfl) hS (fun w2 hw2 => ?ry10) ?rr10
  case ry10 => ((try dsimp only at hw2); go_simp <;> with_reducible rfl)
  simp only [Act.put, List.setIfInBounds_toArray, List.set_cons_zero, List.set_cons_succ]
  refine rg_load 13 rfl (by kernel_rfl) (by kernel_rfl) (by kernel_rfl) (x4.heap.size) (0) ((flv rq.f.code rq.f.at_ rq.f.placed)) (fun _ _ _ h => h) (by rfl) 38 (.tmp 14) rfl rfl hS (fun w2 h2 => (H14.out.2.2.2.2.2.1.later h2 (Nat.le_refl _)).range) Tryz.underlying38 rfl (fl_size _ _ _) ?_
  simp only [Act.put, List.setIfInBounds_toArray, List.set_cons_zero, List.set_cons_succ]
  refine rg_step 14 rfl (by kernel_rfl) (by rfl) (fun K hK => ?_)
  go_simp
  refine (is_told3 (H14.out.2.2.1.later hS (Nat.le_refl _)) (Handle.later (H14.out.2.2.2.2.2.2.2.2.2.2.2.2.2.2.2.2.2.2.2.2.trans (Below.mono hS H14.out.2.2.2.2.2.2.2.2.2.2.2.2.2.2.2.2.2.2.2.2.size)) (Nat.le_refl _) HB.out.2.2.2)).mono ?_
  rintro e w' ⟨rfl, bk⟩
  replace hS := hS.trans (bk.mono hS.size)
  clear bk
  refine hK.out _ _ hS ?_
  clear hK K
  try simp only [Act.put, List.setIfInBounds_toArray, List.set_cons_zero, List.set_cons_succ]
  refine rg_take 15 (v := ?rv11) rfl (by kernel_rfl) (by kernel_rfl) (by kernel_rfl) (fun _ _ _ h => h) (by rfl) hS (fun w2 hw2 => ?ry11) ?rr11
  case ry11 => ((try dsimp only at hw2); go_simp <;> with_reducible rfl)
  simp only [Act.put, List.setIfInBounds_toArray, List.set_cons_zero, List.set_cons_succ]
  refine rg_take 16 (v := ?rv12) rfl (by kernel_rfl) (by kernel_rfl) (by kernel_rfl) (fun _ _ _ h => h) (by rfl) hS (fun w2 hw2 => ?ry12) ?rr12
  case ry12 => ((try dsimp only at hw2); go_simp <;> with_reducible rfl)
  simp only [Act.put, List.setIfInBounds_toArray, List.set_cons_zero, List.set_cons_succ]
  obtain ⟨X1, hX1⟩ : ∃ X, rcv rr.r A5 n5 c5 = X := ⟨_, rfl⟩
  obtain ⟨X2, hX2⟩ : ∃ X, rcv rr.r A7 n7 c7 = X := ⟨_, rfl⟩
  obtain ⟨X3, hX3⟩ : ∃ X, rcv r A n c = X := ⟨_, rfl⟩
  have HX1 := Lib.hid hX1
  have HX2 := Lib.hid hX2
  have HX3 := Lib.hid hX3
  clear hX1 hX2 hX3
  refine rg_load 17 rfl (by kernel_rfl) (by kernel_rfl) (by kernel_rfl) (w5.heap.size) (0) (X1) (fun _ _ _ h => h) (by rfl) 28 (.tmp 15) rfl rfl hS (fun w2 h2 => HX1.out ▸ (H14.out.2.2.2.2.2.2.2.2.1.later h2 (Nat.le_refl _)).range) Tryz.underlying28 rfl (HX1.out ▸ rc_size HRK.out _ _ _) ?_
  simp only [Act.put, List.setIfInBounds_toArray, List.set_cons_zero, List.set_cons_succ]
  refine rg_load 18 rfl (by kernel_rfl) (by kernel_rfl) (by kernel_rfl) (w7.heap.size) (0) (X2) (fun _ _ _ h => h) (by rfl) 28 (.tmp 18) rfl rfl hS (fun w2 h2 => HX2.out ▸ (H14.out.2.2.2.2.2.2.2.2.2.2.1.later h2 (Nat.le_refl _)).range) Tryz.underlying28 rfl (HX2.out ▸ rc_size HRK.out _ _ _) ?_
  simp only [Act.put, List.setIfInBounds_toArray, List.set_cons_zero, List.set_cons_succ]
  refine rg_step 19 rfl (by kernel_rfl) (by rfl) (fun K hK => ?_)
  go_simp
  rw [← HX1.out, ← HX2.out]
  refine (record_same HRK.out (H14.out.2.2.2.2.2.2.1.later hS (Nat.le_refl _)) (H14.out.2.2.2.2.2.2.2.2.2.1.later hS (Nat.le_refl _))).mono ?_
  rintro e w' ⟨rfl, bk⟩
  replace hS := hS.trans (bk.mono hS.size)
  clear bk
  refine hK.out _ _ hS ?_
  clear hK K
  try simp only [Act.put, List.setIfInBounds_toArray, List.set_cons_zero, List.set_cons_succ]
  refine rg_take 20 (v := ?rv13) rfl (by kernel_rfl) (by kernel_rfl) (by kernel_rfl) (fun _ _ _ h => h) (by rfl) hS (fun w2 hw2 => ?ry13) ?rr13
  case ry13 => ((try dsimp only at hw2); go_simp <;> with_reducible rfl)
  simp only [Act.put, List.setIfInBounds_toArray, List.set_cons_zero, List.set_cons_succ]
  refine rg_take 21 (v := ?rv14) rfl (by kernel_rfl) (by kernel_rfl) (by kernel_rfl) (fun _ _ _ h => h) (by rfl) hS (fun w2 hw2 => ?ry14) ?rr14
  case ry14 => ((try dsimp only at hw2); go_simp <;> with_reducible rfl)
  simp only [Act.put, List.setIfInBounds_toArray, List.set_cons_zero, List.set_cons_succ]
  refine rg_take 22 (v := ?rv15) rfl (by kernel_rfl) (by kernel_rfl) (by kernel_rfl) (fun _ _ _ h => h) (by rfl) hS (fun w2 hw2 => ?ry15) ?rr15
  case ry15 => ((try dsimp only at hw2); go_simp <;> with_reducible rfl)
  simp only [Act.put, List.setIfInBounds_toArray, List.set_cons_zero, List.set_cons_succ]
  refine rg_take 23 (v := ?rv16) rfl (by kernel_rfl) (by kernel_rfl) (by kernel_rfl) (fun _ _ _ h => h) (by rfl) hS (fun w2 hw2 => ?ry16) ?rr16
  case ry16 => ((try dsimp only at hw2); go_simp <;> with_reducible rfl)
  simp only [Act.put, List.setIfInBounds_toArray, List.set_cons_zero, List.set_cons_succ]
  refine rg_take 24 (v := ?rv17) rfl (by kernel_rfl) (by kernel_rfl) (by kernel_rfl) (fun _ _ _ h => h) (by rfl) hS (fun w2 hw2 => ?ry17) ?rr17
  case ry17 => ((try dsimp only at hw2); go_simp <;> with_reducible rfl)
  simp only [Act.put, List.setIfInBounds_toArray, List.set_cons_zero, List.set_cons_succ]
  refine rg_take 25 (v := ?rv18) rfl (by kernel_rfl) (by kernel_rfl) (by kernel_rfl) (fun _ _ _ h => h) (by rfl) hS (fun w2 hw2 => ?ry18) ?rr18
  case ry18 => ((try dsimp only at hw2); go_simp <;> with_reducible rfl)
  simp only [Act.put, List.setIfInBounds_toArray, List.set_cons_zero, List.set_cons_succ]
  refine rg_take 26 (v := ?rv19) rfl (by kernel_rfl) (by kernel_rfl) (by kernel_rfl) (fun _ _ _ h => h) (by rfl) hS (fun w2 hw2 => ?ry19) ?rr19
  case ry19 => ((try dsimp only at hw2); go_simp <;> with_reducible rfl)
  simp only [Act.put, List.setIfInBounds_toArray, List.set_cons_zero, List.set_cons_succ]
  refine rg_take 27 (v := ?rv20) rfl (by kernel_rfl) (by kernel_rfl) (by kernel_rfl) (fun _ _ _ h => h) (by rfl) hS (fun w2 hw2 => ?ry20) ?rr20
  case ry20 => ((try dsimp only at hw2); go_simp <;> with_reducible rfl)
  simp only [Act.put, List.setIfInBounds_toArray, List.set_cons_zero, List.set_cons_succ]
  refine rg_load 28 rfl (by kernel_rfl) (by kernel_rfl) (by kernel_rfl) (x8.heap.size) (0) ((flv rr.f.code rr.f.at_ rr.f.placed)) (fun _ _ _ h => h) (by rfl) 38 (.tmp 20) rfl rfl hS (fun w2 h2 => (H14.out.2.2.2.2.2.2.2.2.2.2.2.1.later h2 (Nat.le_refl _)).range) Tryz.underlying38 rfl (fl_size _ _ _) ?_
  simp only [Act.put, List.setIfInBounds_toArray, List.set_cons_zero, List.set_cons_succ]
  refine rg_step 29 rfl (by kernel_rfl) (by rfl) (fun K hK => ?_)
  go_simp
  refine (is_told3 (H14.out.2.2.2.2.2.2.2.1.later hS (Nat.le_refl _)) (Handle.later (H14.out.2.2.2.2.2.2.2.2.2.2.2.2.2.2.2.2.2.2.2.2.trans (Below.mono hS H14.out.2.2.2.2.2.2.2.2.2.2.2.2.2.2.2.2.2.2.2.2.size)) (Nat.le_refl _) HB.out.2.2.2)).mono ?_
  rintro e w' ⟨rfl, bk⟩
  replace hS := hS.trans (bk.mono hS.size)
  clear bk
  refine hK.out _ _ hS ?_
  clear hK K
  try simp only [Act.put, List.setIfInBounds_toArray, List.set_cons_zero, List.set_cons_succ]
  refine rg_take 30 (v := ?rv21) rfl (by kernel_rfl) (by kernel_rfl) (by kernel_rfl) (fun _ _ _ h => h) (by rfl) hS (fun w2 hw2 => ?ry21) ?rr21
  case ry21 => ((try dsimp only at hw2); go_simp <;> with_reducible rfl)
  simp only [Act.put, List.setIfInBounds_toArray, List.set_cons_zero, List.set_cons_succ]
  refine rg_take 31 (v := ?rv22) rfl (by kernel_rfl) (by kernel_rfl) (by kernel_rfl) (fun _ _ _ h => h) (by rfl) hS (fun w2 hw2 => ?ry22) ?rr22
  case ry22 => ((try dsimp only at hw2); go_simp <;> with_reducible rfl)
  simp only [Act.put, List.setIfInBounds_toArray, List.set_cons_zero, List.set_cons_succ]
  refine rg_take 32 (v := ?rv23) rfl (by kernel_rfl) (by kernel_rfl) (by kernel_rfl) (fun _ _ _ h => h) (by rfl) hS (fun w2 hw2 => ?ry23) ?rr23
  case ry23 => ((try dsimp only at hw2); go_simp <;> with_reducible rfl)
  simp only [Act.put, List.setIfInBounds_toArray, List.set_cons_zero, List.set_cons_succ]
  refine rg_take 33 (v := ?rv24) rfl (by kernel_rfl) (by kernel_rfl) (by kernel_rfl) (fun _ _ _ h => h) (by rfl) hS (fun w2 hw2 => ?ry24) ?rr24
  case ry24 => ((try dsimp only at hw2); go_simp <;> with_reducible rfl)
  simp only [Act.put, List.setIfInBounds_toArray, List.set_cons_zero, List.set_cons_succ]
  refine rg_step 34 rfl (by kernel_rfl) (by rfl) (fun K hK => ?_)
  go_simp
  refine (bytes_same (H14.out.2.2.2.2.2.2.2.2.2.2.2.2.1.later hS (Nat.le_refl _)) (H14.out.2.2.2.2.2.2.2.2.2.2.2.2.2.2.1.later hS (Nat.le_refl _))).mono ?_
  rintro e w' ⟨rfl, rfl⟩
  refine hK.out _ _ hS ?_
  clear hK K
  try simp only [Act.put, List.setIfInBounds_toArray, List.set_cons_zero, List.set_cons_succ]
  refine rg_take 35 (v := ?rv25) rfl (by kernel_rfl) (by kernel_rfl) (by kernel_rfl) (fun _ _ _ h => h) (by rfl) hS (fun w2 hw2 => ?ry25) ?rr25
  case ry25 => ((try dsimp only at hw2); go_simp <;> with_reducible rfl)
  simp only [Act.put, List.setIfInBounds_toArray, List.set_cons_zero, List.set_cons_succ]
  refine rg_take 36 (v := ?rv26) rfl (by kernel_rfl) (by kernel_rfl) (by kernel_rfl) (fun _ _ _ h => h) (by rfl) hS (fun w2 hw2 => ?ry26) ?rr26
  case ry26 => ((try dsimp only at hw2); go_simp <;> with_reducible rfl)
  simp only [Act.put, List.setIfInBounds_toArray, List.set_cons_zero, List.set_cons_succ]
  refine rg_take 37 (v := ?rv27) rfl (by kernel_rfl) (by kernel_rfl) (by kernel_rfl) (fun _ _ _ h => h) (by rfl) hS (fun w2 hw2 => ?ry27) ?rr27
  case ry27 => ((try dsimp only at hw2); go_simp <;> with_reducible rfl)
  simp only [Act.put, List.setIfInBounds_toArray, List.set_cons_zero, List.set_cons_succ]
  refine rg_load 38 rfl (by kernel_rfl) (by kernel_rfl) (by kernel_rfl) (w10.heap.size) (0) ((flv we.code we.at_ we.placed)) (fun _ _ _ h => h) (by rfl) 38 (.tmp 24) rfl rfl hS (fun w2 h2 => (H14.out.2.2.2.2.2.2.2.2.2.2.2.2.2.2.2.1.later h2 (Nat.le_refl _)).range) Tryz.underlying38 rfl (fl_size _ _ _) ?_
  simp only [Act.put, List.setIfInBounds_toArray, List.set_cons_zero, List.set_cons_succ]
  refine rg_step 39 rfl (by kernel_rfl) (by rfl) (fun K hK => ?_)
  go_simp
  refine (is_told3 (H14.out.2.2.2.2.2.2.2.2.2.2.2.2.2.1.later hS (Nat.le_refl _)) (Handle.later (H14.out.2.2.2.2.2.2.2.2.2.2.2.2.2.2.2.2.2.2.2.2.trans (Below.mono hS H14.out.2.2.2.2.2.2.2.2.2.2.2.2.2.2.2.2.2.2.2.2.size)) (Nat.le_refl _) HB.out.2.2.2)).mono ?_
  rintro e w' ⟨rfl, bk⟩
  replace hS := hS.trans (bk.mono hS.size)
  clear bk
  refine hK.out _ _ hS ?_
  clear hK K
  try simp only [Act.put, List.setIfInBounds_toArray, List.set_cons_zero, List.set_cons_succ]
  refine rg_take 40 (v := ?rv28) rfl (by kernel_rfl) (by kernel_rfl) (by kernel_rfl) (fun _ _ _ h => h) (by rfl) hS (fun w2 hw2 => ?ry28) ?rr28
  case ry28 => ((try dsimp only at hw2); go_simp <;> with_reducible rfl)
  simp only [Act.put, List.setIfInBounds_toArray, List.set_cons_zero, List.set_cons_succ]
  refine rg_take 41 (v := ?rv29) rfl (by kernel_rfl) (by kernel_rfl) (by kernel_rfl) (fun _ _ _ h => h) (by rfl) hS (fun w2 hw2 => ?ry29) ?rr29
  case ry29 => ((try dsimp only at hw2); go_simp <;> with_reducible rfl)
  simp only [Act.put, List.setIfInBounds_toArray, List.set_cons_zero, List.set_cons_succ]
  refine rg_take 42 (v := ?rv30) rfl (by kernel_rfl) (by kernel_rfl) (by kernel_rfl) (fun _ _ _ h => h) (by rfl) hS (fun w2 hw2 => ?ry30) ?rr30
  case ry30 => ((try dsimp only at hw2); go_simp <;> with_reducible rfl)
  simp only [Act.put, List.setIfInBounds_toArray, List.set_cons_zero, List.set_cons_succ]
  refine rg_take 43 (v := ?rv31) rfl (by kernel_rfl) (by kernel_rfl) (by kernel_rfl) (fun _ _ _ h => h) (by rfl) hS (fun w2 hw2 => ?ry31) ?rr31
  case ry31 => ((try dsimp only at hw2); go_simp <;> with_reducible rfl)
  simp only [Act.put, List.setIfInBounds_toArray, List.set_cons_zero, List.set_cons_succ]
  refine rg_step 44 rfl (by kernel_rfl) (by rfl) (fun K hK => ?_)
  go_simp
  refine (bytes_same (H14.out.2.2.2.2.2.2.2.2.2.2.2.2.2.2.2.2.1.later hS (Nat.le_refl _)) (H14.out.2.2.2.2.2.2.2.2.2.2.2.2.2.2.2.2.2.2.1.later hS (Nat.le_refl _))).mono ?_
  rintro e w' ⟨rfl, rfl⟩
  refine hK.out _ _ hS ?_
  clear hK K
  try simp only [Act.put, List.setIfInBounds_toArray, List.set_cons_zero, List.set_cons_succ]
  refine rg_take 45 (v := ?rv32) rfl (by kernel_rfl) (by kernel_rfl) (by kernel_rfl) (fun _ _ _ h => h) (by rfl) hS (fun w2 hw2 => ?ry32) ?rr32
  case ry32 => ((try dsimp only at hw2); go_simp <;> with_reducible rfl)
  simp only [Act.put, List.setIfInBounds_toArray, List.set_cons_zero, List.set_cons_succ]
  refine rg_take 46 (v := ?rv33) rfl (by kernel_rfl) (by kernel_rfl) (by kernel_rfl) (fun _ _ _ h => h) (by rfl) hS (fun w2 hw2 => ?ry33) ?rr33
  case ry33 => ((try dsimp only at hw2); go_simp <;> with_reducible rfl)
  simp only [Act.put, List.setIfInBounds_toArray, List.set_cons_zero, List.set_cons_succ]
  refine rg_take 47 (v := ?rv34) rfl (by kernel_rfl) (by kernel_rfl) (by kernel_rfl) (fun _ _ _ h => h) (by rfl) hS (fun w2 hw2 => ?ry34) ?rr34
  case ry34 => ((try dsimp only at hw2); go_simp <;> with_reducible rfl)
  simp only [Act.put, List.setIfInBounds_toArray, List.set_cons_zero, List.set_cons_succ]
  refine rg_load 48 rfl (by kernel_rfl) (by kernel_rfl) (by kernel_rfl) (w13.heap.size) (0) ((flv ve.code ve.at_ ve.placed)) (fun _ _ _ h => h) (by rfl) 38 (.tmp 28) rfl rfl hS (fun w2 h2 => (H14.out.2.2.2.2.2.2.2.2.2.2.2.2.2.2.2.2.2.2.2.1.later h2 (Nat.le_refl _)).range) Tryz.underlying38 rfl (fl_size _ _ _) ?_
  simp only [Act.put, List.setIfInBounds_toArray, List.set_cons_zero, List.set_cons_succ]
  refine rg_step 49 rfl (by kernel_rfl) (by rfl) (fun K hK => ?_)
  go_simp
  refine (is_told3 (H14.out.2.2.2.2.2.2.2.2.2.2.2.2.2.2.2.2.2.1.later hS (Nat.le_refl _)) (Handle.later (H14.out.2.2.2.2.2.2.2.2.2.2.2.2.2.2.2.2.2.2.2.2.trans (Below.mono hS H14.out.2.2.2.2.2.2.2.2.2.2.2.2.2.2.2.2.2.2.2.2.size)) (Nat.le_refl _) HB.out.2.2.2)).mono ?_
  rintro e w' ⟨rfl, bk⟩
  replace hS := hS.trans (bk.mono hS.size)
  clear bk
  refine hK.out _ _ hS ?_
  clear hK K
  try simp only [Act.put, List.setIfInBounds_toArray, List.set_cons_zero, List.set_cons_succ]
  refine rg_take 50 (v := ?rv35) rfl (by kernel_rfl) (by kernel_rfl) (by kernel_rfl) (fun _ _ _ h => h) (by rfl) hS (fun w2 hw2 => ?ry35) ?rr35
  case ry35 => ((try dsimp only at hw2); go_simp <;> with_reducible rfl)
  simp only [Act.put, List.setIfInBounds_toArray, List.set_cons_zero, List.set_cons_succ]
  refine rg_take 51 (v := ?rv36) rfl (by kernel_rfl) (by kernel_rfl) (by kernel_rfl) (fun _ _ _ h => h) (by rfl) hS (fun w2 hw2 => ?ry36) ?rr36
  case ry36 => ((try dsimp only at hw2); go_simp <;> with_reducible rfl)
  simp only [Act.put, List.setIfInBounds_toArray, List.set_cons_zero, List.set_cons_succ]
  refine rg_load 52 rfl (by kernel_rfl) (by kernel_rfl) (by kernel_rfl) (w.heap.size) (0) (X3) (fun _ _ _ h => h) (by rfl) 28 (.tmp 6) rfl rfl hS (fun w2 h2 => HX3.out ▸ (H14.out.1.later h2 (Nat.le_refl _)).range) Tryz.underlying28 rfl (HX3.out ▸ rc_size hk _ _ _) ?_
  simp only [Act.put, List.setIfInBounds_toArray, List.set_cons_zero, List.set_cons_succ]
  refine rg_load 54 rfl (by kernel_rfl) (by kernel_rfl) (by kernel_rfl) (w.heap.size) (0) (X3) (fun _ _ _ h => h) (by rfl) 28 (.tmp 6) rfl rfl hS (fun w2 h2 => HX3.out ▸ (H14.out.1.later h2 (Nat.le_refl _)).range) Tryz.underlying28 rfl (HX3.out ▸ rc_size hk _ _ _) ?_
  simp only [Act.put, List.setIfInBounds_toArray, List.set_cons_zero, List.set_cons_succ]
  refine rg_step 53 rfl (by kernel_rfl) (by rfl) (fun K hK => ?_)
  go_simp
  rw [← HX3.out]
  refine (KT.out _ (H14.out.2.2.2.2.2.2.2.2.2.2.2.2.2.2.2.2.2.2.2.2.trans (Below.mono hS H14.out.2.2.2.2.2.2.2.2.2.2.2.2.2.2.2.2.2.2.2.2.size))).mono ?_
  rintro e w' ⟨rfl, bk⟩
  replace hS := hS.trans (bk.mono hS.size)
  clear bk
  refine hK.out _ _ hS ?_
  clear hK K
  try simp only [Act.put, List.setIfInBounds_toArray, List.set_cons_zero, List.set_cons_succ]
  refine rg_step 55 rfl (by kernel_rfl) (by rfl) (fun K hK => ?_)
  go_simp
  refine (KTr.out _ (H14.out.2.2.2.2.2.2.2.2.2.2.2.2.2.2.2.2.2.2.2.2.trans (Below.mono hS H14.out.2.2.2.2.2.2.2.2.2.2.2.2.2.2.2.2.2.2.2.2.size))).mono ?_
  rintro e w' ⟨rfl, bk⟩
  replace hS := hS.trans (bk.mono hS.size)
  clear bk
  refine hK.out _ _ hS ?_
  clear hK K
  try simp only [Act.put, List.setIfInBounds_toArray, List.set_cons_zero, List.set_cons_succ]
  have hdd : (dr == dr) = true := beq_self_eq_true dr
  refine rg_take 56 (v := ?rv37) rfl (by kernel_rfl) (by kernel_rfl) (by kernel_rfl) (fun _ _ _ h => h) (by rfl) hS (fun w2 hw2 => ?ry37) ?rr37
  case ry37 => ((try dsimp only at hw2); go_simp <;> with_reducible rfl)
  simp only [Act.put, List.setIfInBounds_toArray, List.set_cons_zero, List.set_cons_succ]
  refine rg_take 57 (v := ?rv38) rfl (by kernel_rfl) (by kernel_rfl) (by kernel_rfl) (fun _ _ _ h => h) (by rfl) hS (fun w2 hw2 => ?ry38) ?rr38
  case ry38 => ((try dsimp only at hw2); go_simp <;> with_reducible rfl)
  simp only [Act.put, List.setIfInBounds_toArray, List.set_cons_zero, List.set_cons_succ]
  refine rg_take 58 (v := ?rv39) rfl (by kernel_rfl) (by kernel_rfl) (by kernel_rfl) (fun _ _ _ h => h) (by rfl) hS (fun w2 hw2 => ?ry39) ?rr39
  case ry39 => ((try dsimp only at hw2); go_simp <;> with_reducible rfl)
  simp only [Act.put, List.setIfInBounds_toArray, List.set_cons_zero, List.set_cons_succ]
  refine rg_done (by kernel_rfl) ?_
  go_wp2_with fail
  go_ret
  exact ⟨rfl, (H14.out.2.2.2.2.2.2.2.2.2.2.2.2.2.2.2.2.2.2.2.2.trans (Below.mono hS H14.out.2.2.2.2.2.2.2.2.2.2.2.2.2.2.2.2.2.2.2.2.size))⟩
  -->>
end Go.Proofs.YtpojiimcdknafaaGreatDoor
