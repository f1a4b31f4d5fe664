/-
  stockadelaw13.RecordBack answers true, whatever is handed in. Conditions: those of the slices; what the program's text has laid (internal/bytealg.MaxLen holds an int; errors.errorType holds the handle of the type error).
-/
import Derived.Test.YtddnfbkmhgflbaaGreatDoorZ45
import Derived.Test.YtddnfbkmhgflbaaGreatDoorZ26
import Derived.Test.YtddnfbkmhgflbaaGreatDoorZ16
import Derived.IntWalk
import Derived.Deep.DeepCutAuto
namespace Go.Proofs.YtddnfbkmhgflbaaGreatDoor
open Go.RowKit Go.Extern.Stop Go.Stop Go.Extern
set_option maxRecDepth 100000

theorem help_code {v : Value} {f : Fl} {w : World} (h : Tells w v f) (hc : f.code ≠ 0) (hg : Handle w) : Calls Tryz.prog 25 #[v] w fun e w' => e = .returned (.int .i64 f.code) ∧ Below w.heap.size w w' := by
  rcases h with ⟨h0, _⟩ | ⟨_, d, fs, hf, _⟩
  · exact absurd h0 hc
  · have hb : Below w.heap.size w (w.alloc (.cells #[.int .i64 0] 36)) := (Below.refl _ _).alloc (Nat.le_refl _) _
    have k3 := (As_E (hf.later hb (Nat.le_refl _)).chain (hg.later hb (Nat.le_refl _)) (t := ⟨w.heap.size, 0, none⟩) (old := .int .i64 0) (by simp) (by simp)).mono (R' := fun e w' => e = .returned (.bool true) ∧ Below w.heap.size w w' ∧ w'.cell? ⟨w.heap.size, 0, none⟩ = some (.int .i64 f.code)) (by
      rintro e w' ⟨he, w1, h1, rfl⟩
      refine ⟨he, (hb.trans (h1.mono hb.size)).setCell (p := ⟨w.heap.size, 0, none⟩) (Nat.le_refl _) _, ?_⟩
      exact World.cell?_setCell_same' _ _ _ (by rw [h1.cell (p := ⟨w.heap.size, 0, none⟩) (by simp)]; simp))
    have K3 := Lib.hid k3
    clear k3 hb hf hg hc
    go_enter Tryz.func25, Tryz.ntmps25
    go_wp2_with fail
    refine K3.out.mono ?_
    rintro e w1 ⟨rfl, b1, c1⟩
    have H1 := Lib.hid b1
    clear b1
    go_wp2_with fail
    go_ret
    exact ⟨rfl, H1.out⟩
theorem readR_zero {l : List UInt8} {n : Nat} {at_ : Int} (h : (readRv l n at_).f.code ≠ 0) : (readRv l n at_).r = .zero := by
  unfold readRv readRq at h ⊢
  generalize readQv l n at_ = q at h ⊢
  by_cases h1 : q.f.code ≠ 0
  · rw [if_pos h1]; rfl
  rw [if_neg h1] at h ⊢
  by_cases h2 : n < q.next + 4
  · rw [if_pos h2]; rfl
  rw [if_neg h2] at h ⊢
  by_cases h3 : n < q.next + 6 + (if n < q.next + 6 then 0 else num2 l (q.next + 4))
  · rw [if_pos h3]; rfl
  rw [if_neg h3] at h ⊢
  by_cases h4 : (dataV l n (q.q.asRc (num4 l q.next)) (q.next + 4) (num2 l (q.next + 4))).2.code ≠ 0
  · rw [if_pos h4]; rfl
  rw [if_neg h4] at h
  exact absurd rfl h
theorem back_all {l : List UInt8} {n a b : Nat} (hl : l.length = n) {x : Rc} {q : Qs} (hx : rightR x) (hk : x.ok) (t0 : 0 ≤ x.ttl) (t1 : x.ttl < 4294967296) (hq : rightQ q) (ha : (writeRB x).length = a) (hb : (writeQB q).length = b) {N : Nat} (hN : N = n + a + b) {d : Nat} (hd : d < a) :
    readRv (l ++ writeRB x ++ writeQB q) N n = ⟨x, n + a, fl0⟩ ∧ readQv (l ++ writeRB x ++ writeQB q) N (n + a : Nat) = ⟨q, N, fl0⟩ ∧ (readRv ((l ++ writeRB x ++ writeQB q).take (n + d)) (n + d) n).f.code = 3 := by
  have hlen : (l ++ writeRB x ++ writeQB q).length = N := by rw [List.length_append, List.length_append, hl, ha, hb, hN]
  refine ⟨?_, ?_, ?_⟩
  · have h := back_r hlen hx hk t0 t1 (at_ := n) (rest := writeQB q) (by omega) (by rw [List.append_assoc, List.drop_left' hl])
    rw [ha] at h
    exact h
  · have h := back_q hlen hq (at_ := n + a) (rest := []) (by omega) (by rw [List.append_nil, List.drop_left' (by rw [List.length_append, hl, ha])])
    rw [hb, ← hN] at h
    exact h
  · refine cut_r (at_ := n) (k := d) (by rw [List.length_take, hlen]; omega) hx (by omega) ?_ (by omega)
    rw [List.drop_take, show n + d - n = d by omega, List.append_assoc, List.drop_left' hl, List.take_append_of_le_length (by omega)]
section
variable {o : Oper} {a : Act} {w : World} {K : Act → World → Prop} {Q : Exit → Act → World → Prop} {g : Nat}
theorem wp_load_qs0 (x : Operand) (ho : o.op = .load 9 x) (nm : List UInt8) (k c : Int) (hx : a.eval x = .pointer (some ⟨g, 0, none⟩)) (hA : QsBox w g ⟨nm, k, c⟩) (h : K (a.put o.dst (.string (mkS nm))) w) : o.wp Tryz.prog a w K Q := by
  have c0 : w.cell? ⟨g, 0, none⟩ = some (.string (mkS nm)) := hA.cell 0
  have hl : (loadVar 9 ⟨g, 0, none⟩).run Tryz.prog w = .ok (.string (mkS nm)) w := by
    unfold loadVar isAgg
    simp [Sem.run_bind, run_underlying Tryz.underlying9, run_load, c0]
  unfold Oper.wp execOp
  simp only [ho, hx, Instr.loadAt, Instr.sureAddr, Sem.run_bind, Sem.run_pure, Result.andThen_ok, hl]
  exact h
theorem wp_load_qs1 (x : Operand) (ho : o.op = .load 3 x) (nm : List UInt8) (k c : Int) (hx : a.eval x = .pointer (some ⟨g, 1, none⟩)) (hA : QsBox w g ⟨nm, k, c⟩) (h : K (a.put o.dst (.int .i64 k)) w) : o.wp Tryz.prog a w K Q := by
  have c0 : w.cell? ⟨g, 1, none⟩ = some (.int .i64 k) := hA.cell 1
  have hl : (loadVar 3 ⟨g, 1, none⟩).run Tryz.prog w = .ok (.int .i64 k) w := by
    unfold loadVar isAgg
    simp [Sem.run_bind, run_underlying Tryz.underlying3, run_load, c0]
  unfold Oper.wp execOp
  simp only [ho, hx, Instr.loadAt, Instr.sureAddr, Sem.run_bind, Sem.run_pure, Result.andThen_ok, hl]
  exact h
theorem wp_load_qs2 (x : Operand) (ho : o.op = .load 3 x) (nm : List UInt8) (k c : Int) (hx : a.eval x = .pointer (some ⟨g, 2, none⟩)) (hA : QsBox w g ⟨nm, k, c⟩) (h : K (a.put o.dst (.int .i64 c)) w) : o.wp Tryz.prog a w K Q := by
  have c0 : w.cell? ⟨g, 2, none⟩ = some (.int .i64 c) := hA.cell 2
  have hl : (loadVar 3 ⟨g, 2, none⟩).run Tryz.prog w = .ok (.int .i64 c) w := by
    unfold loadVar isAgg
    simp [Sem.run_bind, run_underlying Tryz.underlying3, run_load, c0]
  unfold Oper.wp execOp
  simp only [ho, hx, Instr.loadAt, Instr.sureAddr, Sem.run_bind, Sem.run_pure, Result.andThen_ok, hl]
  exact h
end
theorem num_cut (v : Int) {a : Nat} (h0 : 1 ≤ a) (h1 : a ≤ 100000) : ∃ d : Nat, wrap64 ((IntKind.u64.wrap v).tmod (a : Int)) = (d : Int) ∧ d < a := by
  have h : IntKind.u64.wrap v = v % 18446744073709551616 := rfl
  have h2 : 0 ≤ IntKind.u64.wrap v := by rw [h]; omega
  rw [Int.tmod_eq_emod_of_nonneg h2]
  have h3 := Int.emod_nonneg (IntKind.u64.wrap v) (show (a : Int) ≠ 0 by omega)
  have h4 := Int.emod_lt_of_pos (IntKind.u64.wrap v) (show 0 < (a : Int) by omega)
  generalize IntKind.u64.wrap v % (a : Int) = x at h3 h4
  refine ⟨x.toNat, ?_, by omega⟩
  unfold wrap64
  omega
set_option maxHeartbeats 8000000 in
theorem recordBack {r : Rc} (hk : r.ok) {A : Option Addr} {n c : Nat} {w : World} (hb : Bs w A n c r.data) (hns : r.name.length ≤ 9223372036854775807) (hts : r.target.length ≤ 9223372036854775807) (t0 : 0 ≤ r.ttl) (t1 : r.ttl < 4294967296) (q : Qs) (hqs : q.name.length ≤ 9223372036854775807)
    {A1 : Option Addr} {n1 c1 : Nat} {l : List UInt8} (hb1 : Bs w A1 n1 c1 l) (cut : Int) (hE : Env w) (hg : Handle w) :
    Calls Tryz.prog 4 #[.agg (rcv r A n c), .agg (qsv q), .slice A1 n1 c1, .int .i64 cut] w fun e w' => e = .returned (.bool true) ∧ Below w.heap.size w w' := by
  have a1 := RcBox.new w hk A n c
  have b1 : Below w.heap.size w (w.alloc (.cells (rcv r A n c) 28)) := (Below.refl _ _).alloc (Nat.le_refl _) _
  have a2 := QsBox.new (w.alloc (.cells (rcv r A n c) 28)) q
  rw [World.size_alloc] at a2
  have b2 : Below (w.heap.size + 1) (w.alloc (.cells (rcv r A n c) 28)) ((w.alloc (.cells (rcv r A n c) 28)).alloc (.cells (qsv q) 30)) := (Below.refl _ _).alloc (by simp) _
  have hA := And.intro (a1.later b2 (by simp)) (And.intro a2 (b1.trans (b2.mono (by omega))))
  obtain ⟨W, hW⟩ : ∃ W, (w.alloc (.cells (rcv r A n c) 28)).alloc (.cells (qsv q) 30) = W := ⟨_, rfl⟩
  rw [hW] at hA
  have HW := Lib.hid hW
  have HE := Lib.hid (And.intro hE hg)
  have KP := Lib.hid (playR_any hk (hb.later hA.2.2 (Nat.le_refl _)) hns hts)
  have KN := fun w1 => playName_any (mkS q.name) (by rw [mkS_size]; exact hqs) w1
  rw [mkS_data] at KN
  have hlen := hb1.len
  have hcap := hb1.cap
  have hmax := hb1.max
  unfold maxLen at hmax
  have hw1 : w.heap.size < W.heap.size := hA.1.lt
  have hw2 : w.heap.size + 1 < W.heap.size := hA.2.1.lt
  have HB1 := Lib.hid hb1
  have HA := Lib.hid (And.intro hA.1 (And.intro hA.2.1 (And.intro (hb1.later hA.2.2 (Nat.le_refl _)) hA.2.2)))
  clear a1 b1 a2 b2 hW hA hb hE hg hb1
  by_cases hn : 300 < n1
  · have hqn : decide ((300 : Int) < (n1 : Int)) = true := decide_eq_true (by omega)
    go_enter Tryz.func4, Tryz.ntmps4
    go_wp2_with (rw [HW.out])
    refine (awake13 (HE.out.1.later HA.out.2.2.2 (Nat.le_refl _))).mono ?_
    rintro e w1 ⟨rfl, b1⟩
    have H1 := Lib.hid (HA.out.2.2.2.trans (b1.mono HA.out.2.2.2.size))
    clear b1
    go_wp2_with fail
    go_ret
    exact ⟨rfl, H1.out⟩
  have hqn : decide ((300 : Int) < (n1 : Int)) = false := decide_eq_false (by omega)
  obtain ⟨q1, q2⟩ := num_mod8 q.kind 65536 (by omega) (by omega)
  obtain ⟨q3, q4⟩ := num_mod8 q.cls 65536 (by omega) (by omega)
  obtain ⟨name, kind, cls⟩ := q
  dsimp only at q1 q2 q3 q4 KN hqs
  obtain ⟨kp, hkp⟩ : ∃ kp, wrap64 ((IntKind.u64.wrap kind).tmod 65536) = kp := ⟨_, rfl⟩
  obtain ⟨cp, hcp⟩ : ∃ cp, wrap64 ((IntKind.u64.wrap cls).tmod 65536) = cp := ⟨_, rfl⟩
  have hk2 : IntKind.i64.wrap ((IntKind.u64.wrap kind).tmod 65536) = kp := by
    have h := hkp
    rw [IntKind.wrap_i64]
    generalize (IntKind.u64.wrap kind).tmod 65536 = z at h ⊢
    unfold wrap64 at h
    omega
  have hc2 : IntKind.i64.wrap ((IntKind.u64.wrap cls).tmod 65536) = cp := by
    have h := hcp
    rw [IntKind.wrap_i64]
    generalize (IntKind.u64.wrap cls).tmod 65536 = z at h ⊢
    unfold wrap64 at h
    omega
  have HK2 := Lib.hid hk2
  have HC2 := Lib.hid hc2
  clear hk2 hc2
  rw [hkp] at q1 q2
  rw [hcp] at q3 q4
  have pn := playN_right name
  have hrq : rightQ ⟨playN name, kp, cp⟩ := ⟨pn.1, ⟨q1, by show kp ≤ 65535; omega⟩, ⟨q3, by show cp ≤ 65535; omega⟩⟩
  have hqn60 : (⟨playN name, kp, cp⟩ : Qs).name.length ≤ 1000000 := Nat.le_trans pn.2 (by omega)
  obtain ⟨Q, hQ⟩ : ∃ Q : Qs, Q = ⟨playN name, kp, cp⟩ := ⟨_, rfl⟩
  rw [← hQ] at hrq hqn60
  have HQ := Lib.hid hQ
  have HRQ := Lib.hid hrq
  clear hQ q1 q2 q3 q4 pn hrq
  go_enter Tryz.func4, Tryz.ntmps4
  go_wp2_with (first
    | (refine wpList_load_rc rfl (.tmp 4) rfl rfl HA.out.1 ?_)
    | (rw [HW.out]))
  refine KP.out.mono ?_
  rintro e w2 ⟨x, A2, n2, c2, rfl, hx, hB2, o2, b2⟩
  have H2 := Lib.hid (And.intro (HA.out.1.later b2 (Nat.le_refl _)) (And.intro (HA.out.2.1.later b2 (Nat.le_refl _)) (And.intro (HA.out.2.2.1.later b2 (Nat.le_refl _)) (And.intro hB2 (HA.out.2.2.2.trans (b2.mono HA.out.2.2.2.size))))))
  have far1 : ∀ a, A2 = some a → a.block ≠ w.heap.size := fun a ha => Nat.ne_of_gt (Nat.lt_of_lt_of_le hw1 (o2 a ha))
  have far2 : ∀ a, A2 = some a → a.block ≠ w.heap.size + 1 := fun a ha => Nat.ne_of_gt (Nat.lt_of_lt_of_le hw2 (o2 a ha))
  have HX := Lib.hid hx
  have FF := Lib.hid (And.intro far1 far2)
  clear hB2 o2 b2 hx far1 far2
  go_upto_region 4 with (refine wpList_store_rc rfl (.tmp 4) (.tmp 28) rfl x A2 n2 c2 rfl rfl HX.out.ok H2.out.1 ?_; intro w3 a3 f3 z3 g3; have H3 := Lib.hid (And.intro a3 (And.intro (H2.out.2.1.same (f3 _ (by omega))) (And.intro (H2.out.2.2.2.1.farBlk FF.out.1 f3) (g3 w.heap.size w (Nat.le_refl _) H2.out.2.2.2.2)))); clear a3 f3 z3 g3)
  simp only [Act.put]
  go_cut [29] (fun _ wx => RcBox wx w.heap.size x A2 n2 c2 ∧ QsBox wx (w.heap.size + 1) Q ∧ Bs wx A2 n2 c2 x.data ∧ Below w.heap.size w wx)
  case first =>
    have hS : Below w.heap.size w w3.drew := H3.out.2.2.2.drew
    have X : RcBox w3.drew w.heap.size x A2 n2 c2 := H3.out.1.later (Below.refl _ _).drew (Nat.le_refl _)
    have G : QsBox w3.drew (w.heap.size + 1) ⟨name, kind, cls⟩ := H3.out.2.1.later (Below.refl _ _).drew (Nat.le_refl _)
    have D : Bs w3.drew A2 n2 c2 x.data := H3.out.2.2.1.later (Below.refl _ _).drew (Nat.le_refl _)
    refine rg_begin (fun w' => Below w.heap.size w w') 15 (by kernel_rfl) rfl ?_
    obtain ⟨W0, hW0⟩ : ∃ W0, w3.drew = W0 := ⟨_, rfl⟩
    rw [hW0] at hS X G D ⊢
    clear hW0
    refine rg_take 0 (v := ?rv1) rfl (by kernel_rfl) (by kernel_rfl) (by kernel_rfl) (fun _ _ _ h => h) (by rfl) hS (fun w2 hw2 => ?ry1) ?rr1
    case ry1 => ((try dsimp only at hw2); go_simp <;> with_reducible rfl)
    simp only [Act.put, List.setIfInBounds_toArray, List.set_cons_zero, List.set_cons_succ]
    refine rg_take 3 (v := ?rv2) rfl (by kernel_rfl) (by kernel_rfl) (by kernel_rfl) (fun _ _ _ h => h) (by rfl) hS (fun w2 hw2 => ?ry2) ?rr2
    case ry2 => ((try dsimp only at hw2); go_simp <;> with_reducible rfl)
    simp only [Act.put, List.setIfInBounds_toArray, List.set_cons_zero, List.set_cons_succ]
    refine rg_take 8 (v := ?rv3) rfl (by kernel_rfl) (by kernel_rfl) (by kernel_rfl) (fun _ _ _ h => h) (by rfl) hS (fun w2 hw2 => ?ry3) ?rr3
    case ry3 => ((try dsimp only at hw2); go_simp <;> with_reducible rfl)
    simp only [Act.put, List.setIfInBounds_toArray, List.set_cons_zero, List.set_cons_succ]
    refine rg_any [1, 4, 9] (by kernel_rfl) (by simp) ?_
    refine rg_or 1 rfl (by rfl) (fun K hK => ?_) ?_
    · refine wp_load_qs0 (.tmp 29) rfl name kind cls rfl G ?_
      refine hK.out _ _ hS ?_
      clear hK K
      try simp only [Act.put, List.setIfInBounds_toArray, List.set_cons_zero, List.set_cons_succ]
      refine rg_any [2, 4, 9] (by kernel_rfl) (by simp) ?_
      refine rg_or 2 rfl (by rfl) (fun K hK => ?_) ?_
      · go_simp
        refine (KN _).mono ?_
        rintro e u2 ⟨rfl, bK⟩
        replace X := X.later bK (Nat.le_refl _)
        replace G := G.later bK (Nat.le_refl _)
        replace D := D.later bK (Nat.le_refl _)
        replace hS := hS.trans (bK.mono hS.size)
        clear bK
        refine hK.out _ _ hS ?_
        clear hK K
        try simp only [Act.put, List.setIfInBounds_toArray, List.set_cons_zero, List.set_cons_succ]
        refine rg_any [4, 9] (by kernel_rfl) (by simp) ?_
        refine rg_or 4 rfl (by rfl) (fun K hK => ?_) ?_
        · refine wp_load_qs1 (.tmp 32) rfl name kind cls rfl G ?_
          refine hK.out _ _ hS ?_
          clear hK K
          try simp only [Act.put, List.setIfInBounds_toArray, List.set_cons_zero, List.set_cons_succ]
          refine rg_take 5 (v := ?rv4) rfl (by kernel_rfl) (by kernel_rfl) (by kernel_rfl) (fun _ _ _ h => h) (by rfl) hS (fun w2 hw2 => ?ry4) ?rr4
          case ry4 => ((try dsimp only at hw2); go_simp <;> with_reducible rfl)
          simp only [Act.put, List.setIfInBounds_toArray, List.set_cons_zero, List.set_cons_succ]
          refine rg_take 6 (v := ?rv5) rfl (by kernel_rfl) (by kernel_rfl) (by kernel_rfl) (fun _ _ _ h => h) (by rfl) hS (fun w2 hw2 => ?ry5) ?rr5
          case ry5 => ((try dsimp only at hw2); go_simp <;> with_reducible rfl)
          simp only [Act.put, List.setIfInBounds_toArray, List.set_cons_zero, List.set_cons_succ]
          refine rg_take 7 (v := ?rv6) rfl (by kernel_rfl) (by kernel_rfl) (by kernel_rfl) (fun _ _ _ h => h) (by rfl) hS (fun w2 hw2 => ?ry6) ?rr6
          case ry6 => ((try dsimp only at hw2); go_simp <;> with_reducible rfl)
          simp only [Act.put, List.setIfInBounds_toArray, List.set_cons_zero, List.set_cons_succ]
          refine rg_step 9 rfl (by kernel_rfl) (by rfl) (fun K hK => ?_)
          refine wp_load_qs2 (.tmp 37) rfl name kind cls rfl G ?_
          refine hK.out _ _ hS ?_
          clear hK K
          try simp only [Act.put, List.setIfInBounds_toArray, List.set_cons_zero, List.set_cons_succ]
          refine rg_take 10 (v := ?rv7) rfl (by kernel_rfl) (by kernel_rfl) (by kernel_rfl) (fun _ _ _ h => h) (by rfl) hS (fun w2 hw2 => ?ry7) ?rr7
          case ry7 => ((try dsimp only at hw2); go_simp <;> with_reducible rfl)
          simp only [Act.put, List.setIfInBounds_toArray, List.set_cons_zero, List.set_cons_succ]
          refine rg_take 11 (v := ?rv8) rfl (by kernel_rfl) (by kernel_rfl) (by kernel_rfl) (fun _ _ _ h => h) (by rfl) hS (fun w2 hw2 => ?ry8) ?rr8
          case ry8 => ((try dsimp only at hw2); go_simp <;> with_reducible rfl)
          simp only [Act.put, List.setIfInBounds_toArray, List.set_cons_zero, List.set_cons_succ]
          refine rg_take 12 (v := ?rv9) rfl (by kernel_rfl) (by kernel_rfl) (by kernel_rfl) (fun _ _ _ h => h) (by rfl) hS (fun w2 hw2 => ?ry9) ?rr9
          case ry9 => ((try dsimp only at hw2); go_simp <;> with_reducible rfl)
          simp only [Act.put, List.setIfInBounds_toArray, List.set_cons_zero, List.set_cons_succ]
          rw [HK2.out, HC2.out]
          refine rg_step 13 rfl (by kernel_rfl) (by rfl) (fun K hK => ?_)
          refine wp_build_qs (.tmp 31) (.tmp 36) (.tmp 41) rfl Q (by rw [HQ.out]; rfl) (by rw [HQ.out]; rfl) (by rw [HQ.out]; rfl) ?_
          refine hK.out _ _ hS ?_
          clear hK K
          simp only [Act.put, List.setIfInBounds_toArray, List.set_cons_zero, List.set_cons_succ]
          refine rg_step 14 rfl (by kernel_rfl) (by rfl) (fun K hK => ?_)
          refine wp_store_qsF (.tmp 5) (.tmp 42) rfl Q rfl rfl G ?_
          intro y G2 far keep
          replace X := X.same (far _ (by omega))
          replace D := D.farBlk FF.out.2 far
          replace hS := keep _ _ (by omega) hS
          refine hK.out _ _ hS ?_
          clear hK K
          simp only [Act.put]
          refine rg_done (by kernel_rfl) ?_
          go_wp2_with fail
          go_meet
          exact ⟨X, G2, D, hS⟩
        refine rg_or 9 rfl (by rfl) (fun K hK => ?_) ?_
        · refine wp_load_qs2 (.tmp 37) rfl name kind cls rfl G ?_
          refine hK.out _ _ hS ?_
          clear hK K
          try simp only [Act.put, List.setIfInBounds_toArray, List.set_cons_zero, List.set_cons_succ]
          refine rg_take 10 (v := ?rv10) rfl (by kernel_rfl) (by kernel_rfl) (by kernel_rfl) (fun _ _ _ h => h) (by rfl) hS (fun w2 hw2 => ?ry10) ?rr10
          case ry10 => ((try dsimp only at hw2); go_simp <;> with_reducible rfl)
          simp only [Act.put, List.setIfInBounds_toArray, List.set_cons_zero, List.set_cons_succ]
          refine rg_take 11 (v := ?rv11) rfl (by kernel_rfl) (by kernel_rfl) (by kernel_rfl) (fun _ _ _ h => h) (by rfl) hS (fun w2 hw2 => ?ry11) ?rr11
          case ry11 => ((try dsimp only at hw2); go_simp <;> with_reducible rfl)
          simp only [Act.put, List.setIfInBounds_toArray, List.set_cons_zero, List.set_cons_succ]
          refine rg_take 12 (v := ?rv12) rfl (by kernel_rfl) (by kernel_rfl) (by kernel_rfl) (fun _ _ _ h => h) (by rfl) hS (fun w2 hw2 => ?ry12) ?rr12
          case ry12 => ((try dsimp only at hw2); go_simp <;> with_reducible rfl)
          simp only [Act.put, List.setIfInBounds_toArray, List.set_cons_zero, List.set_cons_succ]
          refine rg_step 4 rfl (by kernel_rfl) (by rfl) (fun K hK => ?_)
          refine wp_load_qs1 (.tmp 32) rfl name kind cls rfl G ?_
          refine hK.out _ _ hS ?_
          clear hK K
          try simp only [Act.put, List.setIfInBounds_toArray, List.set_cons_zero, List.set_cons_succ]
          refine rg_take 5 (v := ?rv13) rfl (by kernel_rfl) (by kernel_rfl) (by kernel_rfl) (fun _ _ _ h => h) (by rfl) hS (fun w2 hw2 => ?ry13) ?rr13
          case ry13 => ((try dsimp only at hw2); go_simp <;> with_reducible rfl)
          simp only [Act.put, List.setIfInBounds_toArray, List.set_cons_zero, List.set_cons_succ]
          refine rg_take 6 (v := ?rv14) rfl (by kernel_rfl) (by kernel_rfl) (by kernel_rfl) (fun _ _ _ h => h) (by rfl) hS (fun w2 hw2 => ?ry14) ?rr14
          case ry14 => ((try dsimp only at hw2); go_simp <;> with_reducible rfl)
          simp only [Act.put, List.setIfInBounds_toArray, List.set_cons_zero, List.set_cons_succ]
          refine rg_take 7 (v := ?rv15) rfl (by kernel_rfl) (by kernel_rfl) (by kernel_rfl) (fun _ _ _ h => h) (by rfl) hS (fun w2 hw2 => ?ry15) ?rr15
          case ry15 => ((try dsimp only at hw2); go_simp <;> with_reducible rfl)
          simp only [Act.put, List.setIfInBounds_toArray, List.set_cons_zero, List.set_cons_succ]
          rw [HK2.out, HC2.out]
          refine rg_step 13 rfl (by kernel_rfl) (by rfl) (fun K hK => ?_)
          refine wp_build_qs (.tmp 31) (.tmp 36) (.tmp 41) rfl Q (by rw [HQ.out]; rfl) (by rw [HQ.out]; rfl) (by rw [HQ.out]; rfl) ?_
          refine hK.out _ _ hS ?_
          clear hK K
          simp only [Act.put, List.setIfInBounds_toArray, List.set_cons_zero, List.set_cons_succ]
          refine rg_step 14 rfl (by kernel_rfl) (by rfl) (fun K hK => ?_)
          refine wp_store_qsF (.tmp 5) (.tmp 42) rfl Q rfl rfl G ?_
          intro y G2 far keep
          replace X := X.same (far _ (by omega))
          replace D := D.farBlk FF.out.2 far
          replace hS := keep _ _ (by omega) hS
          refine hK.out _ _ hS ?_
          clear hK K
          simp only [Act.put]
          refine rg_done (by kernel_rfl) ?_
          go_wp2_with fail
          go_meet
          exact ⟨X, G2, D, hS⟩
        exact AllReadyH.nil
      refine rg_or 4 rfl (by rfl) (fun K hK => ?_) ?_
      · refine wp_load_qs1 (.tmp 32) rfl name kind cls rfl G ?_
        refine hK.out _ _ hS ?_
        clear hK K
        try simp only [Act.put, List.setIfInBounds_toArray, List.set_cons_zero, List.set_cons_succ]
        refine rg_take 5 (v := ?rv16) rfl (by kernel_rfl) (by kernel_rfl) (by kernel_rfl) (fun _ _ _ h => h) (by rfl) hS (fun w2 hw2 => ?ry16) ?rr16
        case ry16 => ((try dsimp only at hw2); go_simp <;> with_reducible rfl)
        simp only [Act.put, List.setIfInBounds_toArray, List.set_cons_zero, List.set_cons_succ]
        refine rg_take 6 (v := ?rv17) rfl (by kernel_rfl) (by kernel_rfl) (by kernel_rfl) (fun _ _ _ h => h) (by rfl) hS (fun w2 hw2 => ?ry17) ?rr17
        case ry17 => ((try dsimp only at hw2); go_simp <;> with_reducible rfl)
        simp only [Act.put, List.setIfInBounds_toArray, List.set_cons_zero, List.set_cons_succ]
        refine rg_take 7 (v := ?rv18) rfl (by kernel_rfl) (by kernel_rfl) (by kernel_rfl) (fun _ _ _ h => h) (by rfl) hS (fun w2 hw2 => ?ry18) ?rr18
        case ry18 => ((try dsimp only at hw2); go_simp <;> with_reducible rfl)
        simp only [Act.put, List.setIfInBounds_toArray, List.set_cons_zero, List.set_cons_succ]
        refine rg_any [2, 9] (by kernel_rfl) (by simp) ?_
        refine rg_or 2 rfl (by rfl) (fun K hK => ?_) ?_
        · go_simp
          refine (KN _).mono ?_
          rintro e u8 ⟨rfl, bK⟩
          replace X := X.later bK (Nat.le_refl _)
          replace G := G.later bK (Nat.le_refl _)
          replace D := D.later bK (Nat.le_refl _)
          replace hS := hS.trans (bK.mono hS.size)
          clear bK
          refine hK.out _ _ hS ?_
          clear hK K
          try simp only [Act.put, List.setIfInBounds_toArray, List.set_cons_zero, List.set_cons_succ]
          refine rg_step 9 rfl (by kernel_rfl) (by rfl) (fun K hK => ?_)
          refine wp_load_qs2 (.tmp 37) rfl name kind cls rfl G ?_
          refine hK.out _ _ hS ?_
          clear hK K
          try simp only [Act.put, List.setIfInBounds_toArray, List.set_cons_zero, List.set_cons_succ]
          refine rg_take 10 (v := ?rv19) rfl (by kernel_rfl) (by kernel_rfl) (by kernel_rfl) (fun _ _ _ h => h) (by rfl) hS (fun w2 hw2 => ?ry19) ?rr19
          case ry19 => ((try dsimp only at hw2); go_simp <;> with_reducible rfl)
          simp only [Act.put, List.setIfInBounds_toArray, List.set_cons_zero, List.set_cons_succ]
          refine rg_take 11 (v := ?rv20) rfl (by kernel_rfl) (by kernel_rfl) (by kernel_rfl) (fun _ _ _ h => h) (by rfl) hS (fun w2 hw2 => ?ry20) ?rr20
          case ry20 => ((try dsimp only at hw2); go_simp <;> with_reducible rfl)
          simp only [Act.put, List.setIfInBounds_toArray, List.set_cons_zero, List.set_cons_succ]
          refine rg_take 12 (v := ?rv21) rfl (by kernel_rfl) (by kernel_rfl) (by kernel_rfl) (fun _ _ _ h => h) (by rfl) hS (fun w2 hw2 => ?ry21) ?rr21
          case ry21 => ((try dsimp only at hw2); go_simp <;> with_reducible rfl)
          simp only [Act.put, List.setIfInBounds_toArray, List.set_cons_zero, List.set_cons_succ]
          rw [HK2.out, HC2.out]
          refine rg_step 13 rfl (by kernel_rfl) (by rfl) (fun K hK => ?_)
          refine wp_build_qs (.tmp 31) (.tmp 36) (.tmp 41) rfl Q (by rw [HQ.out]; rfl) (by rw [HQ.out]; rfl) (by rw [HQ.out]; rfl) ?_
          refine hK.out _ _ hS ?_
          clear hK K
          simp only [Act.put, List.setIfInBounds_toArray, List.set_cons_zero, List.set_cons_succ]
          refine rg_step 14 rfl (by kernel_rfl) (by rfl) (fun K hK => ?_)
          refine wp_store_qsF (.tmp 5) (.tmp 42) rfl Q rfl rfl G ?_
          intro y G2 far keep
          replace X := X.same (far _ (by omega))
          replace D := D.farBlk FF.out.2 far
          replace hS := keep _ _ (by omega) hS
          refine hK.out _ _ hS ?_
          clear hK K
          simp only [Act.put]
          refine rg_done (by kernel_rfl) ?_
          go_wp2_with fail
          go_meet
          exact ⟨X, G2, D, hS⟩
        refine rg_or 9 rfl (by rfl) (fun K hK => ?_) ?_
        · refine wp_load_qs2 (.tmp 37) rfl name kind cls rfl G ?_
          refine hK.out _ _ hS ?_
          clear hK K
          try simp only [Act.put, List.setIfInBounds_toArray, List.set_cons_zero, List.set_cons_succ]
          refine rg_take 10 (v := ?rv22) rfl (by kernel_rfl) (by kernel_rfl) (by kernel_rfl) (fun _ _ _ h => h) (by rfl) hS (fun w2 hw2 => ?ry22) ?rr22
          case ry22 => ((try dsimp only at hw2); go_simp <;> with_reducible rfl)
          simp only [Act.put, List.setIfInBounds_toArray, List.set_cons_zero, List.set_cons_succ]
          refine rg_take 11 (v := ?rv23) rfl (by kernel_rfl) (by kernel_rfl) (by kernel_rfl) (fun _ _ _ h => h) (by rfl) hS (fun w2 hw2 => ?ry23) ?rr23
          case ry23 => ((try dsimp only at hw2); go_simp <;> with_reducible rfl)
          simp only [Act.put, List.setIfInBounds_toArray, List.set_cons_zero, List.set_cons_succ]
          refine rg_take 12 (v := ?rv24) rfl (by kernel_rfl) (by kernel_rfl) (by kernel_rfl) (fun _ _ _ h => h) (by rfl) hS (fun w2 hw2 => ?ry24) ?rr24
          case ry24 => ((try dsimp only at hw2); go_simp <;> with_reducible rfl)
          simp only [Act.put, List.setIfInBounds_toArray, List.set_cons_zero, List.set_cons_succ]
          refine rg_step 2 rfl (by kernel_rfl) (by rfl) (fun K hK => ?_)
          go_simp
          refine (KN _).mono ?_
          rintro e u11 ⟨rfl, bK⟩
          replace X := X.later bK (Nat.le_refl _)
          replace G := G.later bK (Nat.le_refl _)
          replace D := D.later bK (Nat.le_refl _)
          replace hS := hS.trans (bK.mono hS.size)
          clear bK
          refine hK.out _ _ hS ?_
          clear hK K
          try simp only [Act.put, List.setIfInBounds_toArray, List.set_cons_zero, List.set_cons_succ]
          rw [HK2.out, HC2.out]
          refine rg_step 13 rfl (by kernel_rfl) (by rfl) (fun K hK => ?_)
          refine wp_build_qs (.tmp 31) (.tmp 36) (.tmp 41) rfl Q (by rw [HQ.out]; rfl) (by rw [HQ.out]; rfl) (by rw [HQ.out]; rfl) ?_
          refine hK.out _ _ hS ?_
          clear hK K
          simp only [Act.put, List.setIfInBounds_toArray, List.set_cons_zero, List.set_cons_succ]
          refine rg_step 14 rfl (by kernel_rfl) (by rfl) (fun K hK => ?_)
          refine wp_store_qsF (.tmp 5) (.tmp 42) rfl Q rfl rfl G ?_
          intro y G2 far keep
          replace X := X.same (far _ (by omega))
          replace D := D.farBlk FF.out.2 far
          replace hS := keep _ _ (by omega) hS
          refine hK.out _ _ hS ?_
          clear hK K
          simp only [Act.put]
          refine rg_done (by kernel_rfl) ?_
          go_wp2_with fail
          go_meet
          exact ⟨X, G2, D, hS⟩
        exact AllReadyH.nil
      refine rg_or 9 rfl (by rfl) (fun K hK => ?_) ?_
      · refine wp_load_qs2 (.tmp 37) rfl name kind cls rfl G ?_
        refine hK.out _ _ hS ?_
        clear hK K
        try simp only [Act.put, List.setIfInBounds_toArray, List.set_cons_zero, List.set_cons_succ]
        refine rg_take 10 (v := ?rv25) rfl (by kernel_rfl) (by kernel_rfl) (by kernel_rfl) (fun _ _ _ h => h) (by rfl) hS (fun w2 hw2 => ?ry25) ?rr25
        case ry25 => ((try dsimp only at hw2); go_simp <;> with_reducible rfl)
        simp only [Act.put, List.setIfInBounds_toArray, List.set_cons_zero, List.set_cons_succ]
        refine rg_take 11 (v := ?rv26) rfl (by kernel_rfl) (by kernel_rfl) (by kernel_rfl) (fun _ _ _ h => h) (by rfl) hS (fun w2 hw2 => ?ry26) ?rr26
        case ry26 => ((try dsimp only at hw2); go_simp <;> with_reducible rfl)
        simp only [Act.put, List.setIfInBounds_toArray, List.set_cons_zero, List.set_cons_succ]
        refine rg_take 12 (v := ?rv27) rfl (by kernel_rfl) (by kernel_rfl) (by kernel_rfl) (fun _ _ _ h => h) (by rfl) hS (fun w2 hw2 => ?ry27) ?rr27
        case ry27 => ((try dsimp only at hw2); go_simp <;> with_reducible rfl)
        simp only [Act.put, List.setIfInBounds_toArray, List.set_cons_zero, List.set_cons_succ]
        refine rg_any [2, 4] (by kernel_rfl) (by simp) ?_
        refine rg_or 2 rfl (by rfl) (fun K hK => ?_) ?_
        · go_simp
          refine (KN _).mono ?_
          rintro e u13 ⟨rfl, bK⟩
          replace X := X.later bK (Nat.le_refl _)
          replace G := G.later bK (Nat.le_refl _)
          replace D := D.later bK (Nat.le_refl _)
          replace hS := hS.trans (bK.mono hS.size)
          clear bK
          refine hK.out _ _ hS ?_
          clear hK K
          try simp only [Act.put, List.setIfInBounds_toArray, List.set_cons_zero, List.set_cons_succ]
          refine rg_step 4 rfl (by kernel_rfl) (by rfl) (fun K hK => ?_)
          refine wp_load_qs1 (.tmp 32) rfl name kind cls rfl G ?_
          refine hK.out _ _ hS ?_
          clear hK K
          try simp only [Act.put, List.setIfInBounds_toArray, List.set_cons_zero, List.set_cons_succ]
          refine rg_take 5 (v := ?rv28) rfl (by kernel_rfl) (by kernel_rfl) (by kernel_rfl) (fun _ _ _ h => h) (by rfl) hS (fun w2 hw2 => ?ry28) ?rr28
          case ry28 => ((try dsimp only at hw2); go_simp <;> with_reducible rfl)
          simp only [Act.put, List.setIfInBounds_toArray, List.set_cons_zero, List.set_cons_succ]
          refine rg_take 6 (v := ?rv29) rfl (by kernel_rfl) (by kernel_rfl) (by kernel_rfl) (fun _ _ _ h => h) (by rfl) hS (fun w2 hw2 => ?ry29) ?rr29
          case ry29 => ((try dsimp only at hw2); go_simp <;> with_reducible rfl)
          simp only [Act.put, List.setIfInBounds_toArray, List.set_cons_zero, List.set_cons_succ]
          refine rg_take 7 (v := ?rv30) rfl (by kernel_rfl) (by kernel_rfl) (by kernel_rfl) (fun _ _ _ h => h) (by rfl) hS (fun w2 hw2 => ?ry30) ?rr30
          case ry30 => ((try dsimp only at hw2); go_simp <;> with_reducible rfl)
          simp only [Act.put, List.setIfInBounds_toArray, List.set_cons_zero, List.set_cons_succ]
          rw [HK2.out, HC2.out]
          refine rg_step 13 rfl (by kernel_rfl) (by rfl) (fun K hK => ?_)
          refine wp_build_qs (.tmp 31) (.tmp 36) (.tmp 41) rfl Q (by rw [HQ.out]; rfl) (by rw [HQ.out]; rfl) (by rw [HQ.out]; rfl) ?_
          refine hK.out _ _ hS ?_
          clear hK K
          simp only [Act.put, List.setIfInBounds_toArray, List.set_cons_zero, List.set_cons_succ]
          refine rg_step 14 rfl (by kernel_rfl) (by rfl) (fun K hK => ?_)
          refine wp_store_qsF (.tmp 5) (.tmp 42) rfl Q rfl rfl G ?_
          intro y G2 far keep
          replace X := X.same (far _ (by omega))
          replace D := D.farBlk FF.out.2 far
          replace hS := keep _ _ (by omega) hS
          refine hK.out _ _ hS ?_
          clear hK K
          simp only [Act.put]
          refine rg_done (by kernel_rfl) ?_
          go_wp2_with fail
          go_meet
          exact ⟨X, G2, D, hS⟩
        refine rg_or 4 rfl (by rfl) (fun K hK => ?_) ?_
        · refine wp_load_qs1 (.tmp 32) rfl name kind cls rfl G ?_
          refine hK.out _ _ hS ?_
          clear hK K
          try simp only [Act.put, List.setIfInBounds_toArray, List.set_cons_zero, List.set_cons_succ]
          refine rg_take 5 (v := ?rv31) rfl (by kernel_rfl) (by kernel_rfl) (by kernel_rfl) (fun _ _ _ h => h) (by rfl) hS (fun w2 hw2 => ?ry31) ?rr31
          case ry31 => ((try dsimp only at hw2); go_simp <;> with_reducible rfl)
          simp only [Act.put, List.setIfInBounds_toArray, List.set_cons_zero, List.set_cons_succ]
          refine rg_take 6 (v := ?rv32) rfl (by kernel_rfl) (by kernel_rfl) (by kernel_rfl) (fun _ _ _ h => h) (by rfl) hS (fun w2 hw2 => ?ry32) ?rr32
          case ry32 => ((try dsimp only at hw2); go_simp <;> with_reducible rfl)
          simp only [Act.put, List.setIfInBounds_toArray, List.set_cons_zero, List.set_cons_succ]
          refine rg_take 7 (v := ?rv33) rfl (by kernel_rfl) (by kernel_rfl) (by kernel_rfl) (fun _ _ _ h => h) (by rfl) hS (fun w2 hw2 => ?ry33) ?rr33
          case ry33 => ((try dsimp only at hw2); go_simp <;> with_reducible rfl)
          simp only [Act.put, List.setIfInBounds_toArray, List.set_cons_zero, List.set_cons_succ]
          refine rg_step 2 rfl (by kernel_rfl) (by rfl) (fun K hK => ?_)
          go_simp
          refine (KN _).mono ?_
          rintro e u16 ⟨rfl, bK⟩
          replace X := X.later bK (Nat.le_refl _)
          replace G := G.later bK (Nat.le_refl _)
          replace D := D.later bK (Nat.le_refl _)
          replace hS := hS.trans (bK.mono hS.size)
          clear bK
          refine hK.out _ _ hS ?_
          clear hK K
          try simp only [Act.put, List.setIfInBounds_toArray, List.set_cons_zero, List.set_cons_succ]
          rw [HK2.out, HC2.out]
          refine rg_step 13 rfl (by kernel_rfl) (by rfl) (fun K hK => ?_)
          refine wp_build_qs (.tmp 31) (.tmp 36) (.tmp 41) rfl Q (by rw [HQ.out]; rfl) (by rw [HQ.out]; rfl) (by rw [HQ.out]; rfl) ?_
          refine hK.out _ _ hS ?_
          clear hK K
          simp only [Act.put, List.setIfInBounds_toArray, List.set_cons_zero, List.set_cons_succ]
          refine rg_step 14 rfl (by kernel_rfl) (by rfl) (fun K hK => ?_)
          refine wp_store_qsF (.tmp 5) (.tmp 42) rfl Q rfl rfl G ?_
          intro y G2 far keep
          replace X := X.same (far _ (by omega))
          replace D := D.farBlk FF.out.2 far
          replace hS := keep _ _ (by omega) hS
          refine hK.out _ _ hS ?_
          clear hK K
          simp only [Act.put]
          refine rg_done (by kernel_rfl) ?_
          go_wp2_with fail
          go_meet
          exact ⟨X, G2, D, hS⟩
        exact AllReadyH.nil
      exact AllReadyH.nil
    refine rg_or 4 rfl (by rfl) (fun K hK => ?_) ?_
    · refine wp_load_qs1 (.tmp 32) rfl name kind cls rfl G ?_
      refine hK.out _ _ hS ?_
      clear hK K
      try simp only [Act.put, List.setIfInBounds_toArray, List.set_cons_zero, List.set_cons_succ]
      refine rg_take 5 (v := ?rv34) rfl (by kernel_rfl) (by kernel_rfl) (by kernel_rfl) (fun _ _ _ h => h) (by rfl) hS (fun w2 hw2 => ?ry34) ?rr34
      case ry34 => ((try dsimp only at hw2); go_simp <;> with_reducible rfl)
      simp only [Act.put, List.setIfInBounds_toArray, List.set_cons_zero, List.set_cons_succ]
      refine rg_take 6 (v := ?rv35) rfl (by kernel_rfl) (by kernel_rfl) (by kernel_rfl) (fun _ _ _ h => h) (by rfl) hS (fun w2 hw2 => ?ry35) ?rr35
      case ry35 => ((try dsimp only at hw2); go_simp <;> with_reducible rfl)
      simp only [Act.put, List.setIfInBounds_toArray, List.set_cons_zero, List.set_cons_succ]
      refine rg_take 7 (v := ?rv36) rfl (by kernel_rfl) (by kernel_rfl) (by kernel_rfl) (fun _ _ _ h => h) (by rfl) hS (fun w2 hw2 => ?ry36) ?rr36
      case ry36 => ((try dsimp only at hw2); go_simp <;> with_reducible rfl)
      simp only [Act.put, List.setIfInBounds_toArray, List.set_cons_zero, List.set_cons_succ]
      refine rg_any [1, 9] (by kernel_rfl) (by simp) ?_
      refine rg_or 1 rfl (by rfl) (fun K hK => ?_) ?_
      · refine wp_load_qs0 (.tmp 29) rfl name kind cls rfl G ?_
        refine hK.out _ _ hS ?_
        clear hK K
        try simp only [Act.put, List.setIfInBounds_toArray, List.set_cons_zero, List.set_cons_succ]
        refine rg_any [2, 9] (by kernel_rfl) (by simp) ?_
        refine rg_or 2 rfl (by rfl) (fun K hK => ?_) ?_
        · go_simp
          refine (KN _).mono ?_
          rintro e u19 ⟨rfl, bK⟩
          replace X := X.later bK (Nat.le_refl _)
          replace G := G.later bK (Nat.le_refl _)
          replace D := D.later bK (Nat.le_refl _)
          replace hS := hS.trans (bK.mono hS.size)
          clear bK
          refine hK.out _ _ hS ?_
          clear hK K
          try simp only [Act.put, List.setIfInBounds_toArray, List.set_cons_zero, List.set_cons_succ]
          refine rg_step 9 rfl (by kernel_rfl) (by rfl) (fun K hK => ?_)
          refine wp_load_qs2 (.tmp 37) rfl name kind cls rfl G ?_
          refine hK.out _ _ hS ?_
          clear hK K
          try simp only [Act.put, List.setIfInBounds_toArray, List.set_cons_zero, List.set_cons_succ]
          refine rg_take 10 (v := ?rv37) rfl (by kernel_rfl) (by kernel_rfl) (by kernel_rfl) (fun _ _ _ h => h) (by rfl) hS (fun w2 hw2 => ?ry37) ?rr37
          case ry37 => ((try dsimp only at hw2); go_simp <;> with_reducible rfl)
          simp only [Act.put, List.setIfInBounds_toArray, List.set_cons_zero, List.set_cons_succ]
          refine rg_take 11 (v := ?rv38) rfl (by kernel_rfl) (by kernel_rfl) (by kernel_rfl) (fun _ _ _ h => h) (by rfl) hS (fun w2 hw2 => ?ry38) ?rr38
          case ry38 => ((try dsimp only at hw2); go_simp <;> with_reducible rfl)
          simp only [Act.put, List.setIfInBounds_toArray, List.set_cons_zero, List.set_cons_succ]
          refine rg_take 12 (v := ?rv39) rfl (by kernel_rfl) (by kernel_rfl) (by kernel_rfl) (fun _ _ _ h => h) (by rfl) hS (fun w2 hw2 => ?ry39) ?rr39
          case ry39 => ((try dsimp only at hw2); go_simp <;> with_reducible rfl)
          simp only [Act.put, List.setIfInBounds_toArray, List.set_cons_zero, List.set_cons_succ]
          rw [HK2.out, HC2.out]
          refine rg_step 13 rfl (by kernel_rfl) (by rfl) (fun K hK => ?_)
          refine wp_build_qs (.tmp 31) (.tmp 36) (.tmp 41) rfl Q (by rw [HQ.out]; rfl) (by rw [HQ.out]; rfl) (by rw [HQ.out]; rfl) ?_
          refine hK.out _ _ hS ?_
          clear hK K
          simp only [Act.put, List.setIfInBounds_toArray, List.set_cons_zero, List.set_cons_succ]
          refine rg_step 14 rfl (by kernel_rfl) (by rfl) (fun K hK => ?_)
          refine wp_store_qsF (.tmp 5) (.tmp 42) rfl Q rfl rfl G ?_
          intro y G2 far keep
          replace X := X.same (far _ (by omega))
          replace D := D.farBlk FF.out.2 far
          replace hS := keep _ _ (by omega) hS
          refine hK.out _ _ hS ?_
          clear hK K
          simp only [Act.put]
          refine rg_done (by kernel_rfl) ?_
          go_wp2_with fail
          go_meet
          exact ⟨X, G2, D, hS⟩
        refine rg_or 9 rfl (by rfl) (fun K hK => ?_) ?_
        · refine wp_load_qs2 (.tmp 37) rfl name kind cls rfl G ?_
          refine hK.out _ _ hS ?_
          clear hK K
          try simp only [Act.put, List.setIfInBounds_toArray, List.set_cons_zero, List.set_cons_succ]
          refine rg_take 10 (v := ?rv40) rfl (by kernel_rfl) (by kernel_rfl) (by kernel_rfl) (fun _ _ _ h => h) (by rfl) hS (fun w2 hw2 => ?ry40) ?rr40
          case ry40 => ((try dsimp only at hw2); go_simp <;> with_reducible rfl)
          simp only [Act.put, List.setIfInBounds_toArray, List.set_cons_zero, List.set_cons_succ]
          refine rg_take 11 (v := ?rv41) rfl (by kernel_rfl) (by kernel_rfl) (by kernel_rfl) (fun _ _ _ h => h) (by rfl) hS (fun w2 hw2 => ?ry41) ?rr41
          case ry41 => ((try dsimp only at hw2); go_simp <;> with_reducible rfl)
          simp only [Act.put, List.setIfInBounds_toArray, List.set_cons_zero, List.set_cons_succ]
          refine rg_take 12 (v := ?rv42) rfl (by kernel_rfl) (by kernel_rfl) (by kernel_rfl) (fun _ _ _ h => h) (by rfl) hS (fun w2 hw2 => ?ry42) ?rr42
          case ry42 => ((try dsimp only at hw2); go_simp <;> with_reducible rfl)
          simp only [Act.put, List.setIfInBounds_toArray, List.set_cons_zero, List.set_cons_succ]
          refine rg_step 2 rfl (by kernel_rfl) (by rfl) (fun K hK => ?_)
          go_simp
          refine (KN _).mono ?_
          rintro e u22 ⟨rfl, bK⟩
          replace X := X.later bK (Nat.le_refl _)
          replace G := G.later bK (Nat.le_refl _)
          replace D := D.later bK (Nat.le_refl _)
          replace hS := hS.trans (bK.mono hS.size)
          clear bK
          refine hK.out _ _ hS ?_
          clear hK K
          try simp only [Act.put, List.setIfInBounds_toArray, List.set_cons_zero, List.set_cons_succ]
          rw [HK2.out, HC2.out]
          refine rg_step 13 rfl (by kernel_rfl) (by rfl) (fun K hK => ?_)
          refine wp_build_qs (.tmp 31) (.tmp 36) (.tmp 41) rfl Q (by rw [HQ.out]; rfl) (by rw [HQ.out]; rfl) (by rw [HQ.out]; rfl) ?_
          refine hK.out _ _ hS ?_
          clear hK K
          simp only [Act.put, List.setIfInBounds_toArray, List.set_cons_zero, List.set_cons_succ]
          refine rg_step 14 rfl (by kernel_rfl) (by rfl) (fun K hK => ?_)
          refine wp_store_qsF (.tmp 5) (.tmp 42) rfl Q rfl rfl G ?_
          intro y G2 far keep
          replace X := X.same (far _ (by omega))
          replace D := D.farBlk FF.out.2 far
          replace hS := keep _ _ (by omega) hS
          refine hK.out _ _ hS ?_
          clear hK K
          simp only [Act.put]
          refine rg_done (by kernel_rfl) ?_
          go_wp2_with fail
          go_meet
          exact ⟨X, G2, D, hS⟩
        exact AllReadyH.nil
      refine rg_or 9 rfl (by rfl) (fun K hK => ?_) ?_
      · refine wp_load_qs2 (.tmp 37) rfl name kind cls rfl G ?_
        refine hK.out _ _ hS ?_
        clear hK K
        try simp only [Act.put, List.setIfInBounds_toArray, List.set_cons_zero, List.set_cons_succ]
        refine rg_take 10 (v := ?rv43) rfl (by kernel_rfl) (by kernel_rfl) (by kernel_rfl) (fun _ _ _ h => h) (by rfl) hS (fun w2 hw2 => ?ry43) ?rr43
        case ry43 => ((try dsimp only at hw2); go_simp <;> with_reducible rfl)
        simp only [Act.put, List.setIfInBounds_toArray, List.set_cons_zero, List.set_cons_succ]
        refine rg_take 11 (v := ?rv44) rfl (by kernel_rfl) (by kernel_rfl) (by kernel_rfl) (fun _ _ _ h => h) (by rfl) hS (fun w2 hw2 => ?ry44) ?rr44
        case ry44 => ((try dsimp only at hw2); go_simp <;> with_reducible rfl)
        simp only [Act.put, List.setIfInBounds_toArray, List.set_cons_zero, List.set_cons_succ]
        refine rg_take 12 (v := ?rv45) rfl (by kernel_rfl) (by kernel_rfl) (by kernel_rfl) (fun _ _ _ h => h) (by rfl) hS (fun w2 hw2 => ?ry45) ?rr45
        case ry45 => ((try dsimp only at hw2); go_simp <;> with_reducible rfl)
        simp only [Act.put, List.setIfInBounds_toArray, List.set_cons_zero, List.set_cons_succ]
        refine rg_step 1 rfl (by kernel_rfl) (by rfl) (fun K hK => ?_)
        refine wp_load_qs0 (.tmp 29) rfl name kind cls rfl G ?_
        refine hK.out _ _ hS ?_
        clear hK K
        try simp only [Act.put, List.setIfInBounds_toArray, List.set_cons_zero, List.set_cons_succ]
        refine rg_step 2 rfl (by kernel_rfl) (by rfl) (fun K hK => ?_)
        go_simp
        refine (KN _).mono ?_
        rintro e u25 ⟨rfl, bK⟩
        replace X := X.later bK (Nat.le_refl _)
        replace G := G.later bK (Nat.le_refl _)
        replace D := D.later bK (Nat.le_refl _)
        replace hS := hS.trans (bK.mono hS.size)
        clear bK
        refine hK.out _ _ hS ?_
        clear hK K
        try simp only [Act.put, List.setIfInBounds_toArray, List.set_cons_zero, List.set_cons_succ]
        rw [HK2.out, HC2.out]
        refine rg_step 13 rfl (by kernel_rfl) (by rfl) (fun K hK => ?_)
        refine wp_build_qs (.tmp 31) (.tmp 36) (.tmp 41) rfl Q (by rw [HQ.out]; rfl) (by rw [HQ.out]; rfl) (by rw [HQ.out]; rfl) ?_
        refine hK.out _ _ hS ?_
        clear hK K
        simp only [Act.put, List.setIfInBounds_toArray, List.set_cons_zero, List.set_cons_succ]
        refine rg_step 14 rfl (by kernel_rfl) (by rfl) (fun K hK => ?_)
        refine wp_store_qsF (.tmp 5) (.tmp 42) rfl Q rfl rfl G ?_
        intro y G2 far keep
        replace X := X.same (far _ (by omega))
        replace D := D.farBlk FF.out.2 far
        replace hS := keep _ _ (by omega) hS
        refine hK.out _ _ hS ?_
        clear hK K
        simp only [Act.put]
        refine rg_done (by kernel_rfl) ?_
        go_wp2_with fail
        go_meet
        exact ⟨X, G2, D, hS⟩
      exact AllReadyH.nil
    refine rg_or 9 rfl (by rfl) (fun K hK => ?_) ?_
    · refine wp_load_qs2 (.tmp 37) rfl name kind cls rfl G ?_
      refine hK.out _ _ hS ?_
      clear hK K
      try simp only [Act.put, List.setIfInBounds_toArray, List.set_cons_zero, List.set_cons_succ]
      refine rg_take 10 (v := ?rv46) rfl (by kernel_rfl) (by kernel_rfl) (by kernel_rfl) (fun _ _ _ h => h) (by rfl) hS (fun w2 hw2 => ?ry46) ?rr46
      case ry46 => ((try dsimp only at hw2); go_simp <;> with_reducible rfl)
      simp only [Act.put, List.setIfInBounds_toArray, List.set_cons_zero, List.set_cons_succ]
      refine rg_take 11 (v := ?rv47) rfl (by kernel_rfl) (by kernel_rfl) (by kernel_rfl) (fun _ _ _ h => h) (by rfl) hS (fun w2 hw2 => ?ry47) ?rr47
      case ry47 => ((try dsimp only at hw2); go_simp <;> with_reducible rfl)
      simp only [Act.put, List.setIfInBounds_toArray, List.set_cons_zero, List.set_cons_succ]
      refine rg_take 12 (v := ?rv48) rfl (by kernel_rfl) (by kernel_rfl) (by kernel_rfl) (fun _ _ _ h => h) (by rfl) hS (fun w2 hw2 => ?ry48) ?rr48
      case ry48 => ((try dsimp only at hw2); go_simp <;> with_reducible rfl)
      simp only [Act.put, List.setIfInBounds_toArray, List.set_cons_zero, List.set_cons_succ]
      refine rg_any [1, 4] (by kernel_rfl) (by simp) ?_
      refine rg_or 1 rfl (by rfl) (fun K hK => ?_) ?_
      · refine wp_load_qs0 (.tmp 29) rfl name kind cls rfl G ?_
        refine hK.out _ _ hS ?_
        clear hK K
        try simp only [Act.put, List.setIfInBounds_toArray, List.set_cons_zero, List.set_cons_succ]
        refine rg_any [2, 4] (by kernel_rfl) (by simp) ?_
        refine rg_or 2 rfl (by rfl) (fun K hK => ?_) ?_
        · go_simp
          refine (KN _).mono ?_
          rintro e u28 ⟨rfl, bK⟩
          replace X := X.later bK (Nat.le_refl _)
          replace G := G.later bK (Nat.le_refl _)
          replace D := D.later bK (Nat.le_refl _)
          replace hS := hS.trans (bK.mono hS.size)
          clear bK
          refine hK.out _ _ hS ?_
          clear hK K
          try simp only [Act.put, List.setIfInBounds_toArray, List.set_cons_zero, List.set_cons_succ]
          refine rg_step 4 rfl (by kernel_rfl) (by rfl) (fun K hK => ?_)
          refine wp_load_qs1 (.tmp 32) rfl name kind cls rfl G ?_
          refine hK.out _ _ hS ?_
          clear hK K
          try simp only [Act.put, List.setIfInBounds_toArray, List.set_cons_zero, List.set_cons_succ]
          refine rg_take 5 (v := ?rv49) rfl (by kernel_rfl) (by kernel_rfl) (by kernel_rfl) (fun _ _ _ h => h) (by rfl) hS (fun w2 hw2 => ?ry49) ?rr49
          case ry49 => ((try dsimp only at hw2); go_simp <;> with_reducible rfl)
          simp only [Act.put, List.setIfInBounds_toArray, List.set_cons_zero, List.set_cons_succ]
          refine rg_take 6 (v := ?rv50) rfl (by kernel_rfl) (by kernel_rfl) (by kernel_rfl) (fun _ _ _ h => h) (by rfl) hS (fun w2 hw2 => ?ry50) ?rr50
          case ry50 => ((try dsimp only at hw2); go_simp <;> with_reducible rfl)
          simp only [Act.put, List.setIfInBounds_toArray, List.set_cons_zero, List.set_cons_succ]
          refine rg_take 7 (v := ?rv51) rfl (by kernel_rfl) (by kernel_rfl) (by kernel_rfl) (fun _ _ _ h => h) (by rfl) hS (fun w2 hw2 => ?ry51) ?rr51
          case ry51 => ((try dsimp only at hw2); go_simp <;> with_reducible rfl)
          simp only [Act.put, List.setIfInBounds_toArray, List.set_cons_zero, List.set_cons_succ]
          rw [HK2.out, HC2.out]
          refine rg_step 13 rfl (by kernel_rfl) (by rfl) (fun K hK => ?_)
          refine wp_build_qs (.tmp 31) (.tmp 36) (.tmp 41) rfl Q (by rw [HQ.out]; rfl) (by rw [HQ.out]; rfl) (by rw [HQ.out]; rfl) ?_
          refine hK.out _ _ hS ?_
          clear hK K
          simp only [Act.put, List.setIfInBounds_toArray, List.set_cons_zero, List.set_cons_succ]
          refine rg_step 14 rfl (by kernel_rfl) (by rfl) (fun K hK => ?_)
          refine wp_store_qsF (.tmp 5) (.tmp 42) rfl Q rfl rfl G ?_
          intro y G2 far keep
          replace X := X.same (far _ (by omega))
          replace D := D.farBlk FF.out.2 far
          replace hS := keep _ _ (by omega) hS
          refine hK.out _ _ hS ?_
          clear hK K
          simp only [Act.put]
          refine rg_done (by kernel_rfl) ?_
          go_wp2_with fail
          go_meet
          exact ⟨X, G2, D, hS⟩
        refine rg_or 4 rfl (by rfl) (fun K hK => ?_) ?_
        · refine wp_load_qs1 (.tmp 32) rfl name kind cls rfl G ?_
          refine hK.out _ _ hS ?_
          clear hK K
          try simp only [Act.put, List.setIfInBounds_toArray, List.set_cons_zero, List.set_cons_succ]
          refine rg_take 5 (v := ?rv52) rfl (by kernel_rfl) (by kernel_rfl) (by kernel_rfl) (fun _ _ _ h => h) (by rfl) hS (fun w2 hw2 => ?ry52) ?rr52
          case ry52 => ((try dsimp only at hw2); go_simp <;> with_reducible rfl)
          simp only [Act.put, List.setIfInBounds_toArray, List.set_cons_zero, List.set_cons_succ]
          refine rg_take 6 (v := ?rv53) rfl (by kernel_rfl) (by kernel_rfl) (by kernel_rfl) (fun _ _ _ h => h) (by rfl) hS (fun w2 hw2 => ?ry53) ?rr53
          case ry53 => ((try dsimp only at hw2); go_simp <;> with_reducible rfl)
          simp only [Act.put, List.setIfInBounds_toArray, List.set_cons_zero, List.set_cons_succ]
          refine rg_take 7 (v := ?rv54) rfl (by kernel_rfl) (by kernel_rfl) (by kernel_rfl) (fun _ _ _ h => h) (by rfl) hS (fun w2 hw2 => ?ry54) ?rr54
          case ry54 => ((try dsimp only at hw2); go_simp <;> with_reducible rfl)
          simp only [Act.put, List.setIfInBounds_toArray, List.set_cons_zero, List.set_cons_succ]
          refine rg_step 2 rfl (by kernel_rfl) (by rfl) (fun K hK => ?_)
          go_simp
          refine (KN _).mono ?_
          rintro e u31 ⟨rfl, bK⟩
          replace X := X.later bK (Nat.le_refl _)
          replace G := G.later bK (Nat.le_refl _)
          replace D := D.later bK (Nat.le_refl _)
          replace hS := hS.trans (bK.mono hS.size)
          clear bK
          refine hK.out _ _ hS ?_
          clear hK K
          try simp only [Act.put, List.setIfInBounds_toArray, List.set_cons_zero, List.set_cons_succ]
          rw [HK2.out, HC2.out]
          refine rg_step 13 rfl (by kernel_rfl) (by rfl) (fun K hK => ?_)
          refine wp_build_qs (.tmp 31) (.tmp 36) (.tmp 41) rfl Q (by rw [HQ.out]; rfl) (by rw [HQ.out]; rfl) (by rw [HQ.out]; rfl) ?_
          refine hK.out _ _ hS ?_
          clear hK K
          simp only [Act.put, List.setIfInBounds_toArray, List.set_cons_zero, List.set_cons_succ]
          refine rg_step 14 rfl (by kernel_rfl) (by rfl) (fun K hK => ?_)
          refine wp_store_qsF (.tmp 5) (.tmp 42) rfl Q rfl rfl G ?_
          intro y G2 far keep
          replace X := X.same (far _ (by omega))
          replace D := D.farBlk FF.out.2 far
          replace hS := keep _ _ (by omega) hS
          refine hK.out _ _ hS ?_
          clear hK K
          simp only [Act.put]
          refine rg_done (by kernel_rfl) ?_
          go_wp2_with fail
          go_meet
          exact ⟨X, G2, D, hS⟩
        exact AllReadyH.nil
      refine rg_or 4 rfl (by rfl) (fun K hK => ?_) ?_
      · refine wp_load_qs1 (.tmp 32) rfl name kind cls rfl G ?_
        refine hK.out _ _ hS ?_
        clear hK K
        try simp only [Act.put, List.setIfInBounds_toArray, List.set_cons_zero, List.set_cons_succ]
        refine rg_take 5 (v := ?rv55) rfl (by kernel_rfl) (by kernel_rfl) (by kernel_rfl) (fun _ _ _ h => h) (by rfl) hS (fun w2 hw2 => ?ry55) ?rr55
        case ry55 => ((try dsimp only at hw2); go_simp <;> with_reducible rfl)
        simp only [Act.put, List.setIfInBounds_toArray, List.set_cons_zero, List.set_cons_succ]
        refine rg_take 6 (v := ?rv56) rfl (by kernel_rfl) (by kernel_rfl) (by kernel_rfl) (fun _ _ _ h => h) (by rfl) hS (fun w2 hw2 => ?ry56) ?rr56
        case ry56 => ((try dsimp only at hw2); go_simp <;> with_reducible rfl)
        simp only [Act.put, List.setIfInBounds_toArray, List.set_cons_zero, List.set_cons_succ]
        refine rg_take 7 (v := ?rv57) rfl (by kernel_rfl) (by kernel_rfl) (by kernel_rfl) (fun _ _ _ h => h) (by rfl) hS (fun w2 hw2 => ?ry57) ?rr57
        case ry57 => ((try dsimp only at hw2); go_simp <;> with_reducible rfl)
        simp only [Act.put, List.setIfInBounds_toArray, List.set_cons_zero, List.set_cons_succ]
        refine rg_step 1 rfl (by kernel_rfl) (by rfl) (fun K hK => ?_)
        refine wp_load_qs0 (.tmp 29) rfl name kind cls rfl G ?_
        refine hK.out _ _ hS ?_
        clear hK K
        try simp only [Act.put, List.setIfInBounds_toArray, List.set_cons_zero, List.set_cons_succ]
        refine rg_step 2 rfl (by kernel_rfl) (by rfl) (fun K hK => ?_)
        go_simp
        refine (KN _).mono ?_
        rintro e u34 ⟨rfl, bK⟩
        replace X := X.later bK (Nat.le_refl _)
        replace G := G.later bK (Nat.le_refl _)
        replace D := D.later bK (Nat.le_refl _)
        replace hS := hS.trans (bK.mono hS.size)
        clear bK
        refine hK.out _ _ hS ?_
        clear hK K
        try simp only [Act.put, List.setIfInBounds_toArray, List.set_cons_zero, List.set_cons_succ]
        rw [HK2.out, HC2.out]
        refine rg_step 13 rfl (by kernel_rfl) (by rfl) (fun K hK => ?_)
        refine wp_build_qs (.tmp 31) (.tmp 36) (.tmp 41) rfl Q (by rw [HQ.out]; rfl) (by rw [HQ.out]; rfl) (by rw [HQ.out]; rfl) ?_
        refine hK.out _ _ hS ?_
        clear hK K
        simp only [Act.put, List.setIfInBounds_toArray, List.set_cons_zero, List.set_cons_succ]
        refine rg_step 14 rfl (by kernel_rfl) (by rfl) (fun K hK => ?_)
        refine wp_store_qsF (.tmp 5) (.tmp 42) rfl Q rfl rfl G ?_
        intro y G2 far keep
        replace X := X.same (far _ (by omega))
        replace D := D.farBlk FF.out.2 far
        replace hS := keep _ _ (by omega) hS
        refine hK.out _ _ hS ?_
        clear hK K
        simp only [Act.put]
        refine rg_done (by kernel_rfl) ?_
        go_wp2_with fail
        go_meet
        exact ⟨X, G2, D, hS⟩
      exact AllReadyH.nil
    exact AllReadyH.nil
  case rest =>
  obtain ⟨x1, x2, x3, hB⟩ := hcut
  obtain ⟨w5, rfl⟩ : ∃ w5, w5 = wc := ⟨_, rfl⟩
  have H5 := Lib.hid (And.intro x1 (And.intro x2 (And.intro x3 hB)))
  clear x1 x2 x3 hB
  have hxr := HX.out.right
  obtain ⟨a, ha⟩ : ∃ a, (writeRB x).length = a := ⟨_, rfl⟩
  obtain ⟨b, hbq⟩ : ∃ b, (writeQB Q).length = b := ⟨_, rfl⟩
  obtain ⟨N, hN⟩ : ∃ N, N = n1 + a + b := ⟨_, rfl⟩
  have ha2 : 1 ≤ a ∧ a ≤ 3000 := by
    have h1 := dataB_le hxr
    have h2 := writeB_le hxr.1.1
    have h3 : r.ttl = r.ttl := rfl
    rw [← ha, writeRB_length, writeQB_length]
    have h4 : x.asks.name = x.name := rfl
    rw [h4] at h2 ⊢
    omega
  have hb2 : b ≤ 300 := by
    have h2 := writeB_le HRQ.out.1
    rw [← hbq, writeQB_length]
    omega
  obtain ⟨d, hd, hda⟩ := num_cut cut ha2.1 (by omega)
  obtain ⟨k1, k2, k3⟩ := back_all hlen hxr HX.out.ok (by rw [HX.out.time]; exact t0) (by rw [HX.out.time]; exact t1) HRQ.out ha hbq hN hda
  have kw := fun (w1 : World) (h1 : Bs w1 A2 n2 c2 x.data) (h2 : Below w.heap.size w w1) => writeR_any HX.out.ok h1 (Nat.le_trans HX.out.name (by omega)) (Nat.le_trans HX.out.target (by omega)) (by rw [HX.out.time]; exact t0) (by rw [HX.out.time]; exact t1) (HE.out.1.later h2 (Nat.le_refl _))
  unfold writeRv writeRe at kw
  rw [if_pos hxr, if_pos hxr, ha] at kw
  have kv := fun (w1 : World) (h2 : Below w.heap.size w w1) => writeQ_any Q hqn60 (HE.out.1.later h2 (Nat.le_refl _))
  unfold writeQv writeQe at kv
  rw [if_pos HRQ.out, if_pos HRQ.out, hbq] at kv
  have HV := Lib.hid (And.intro kw kv)
  have hlenB : (l ++ writeRB x ++ writeQB Q).length = N := by rw [List.length_append, List.length_append, hlen, ha, hbq, hN]
  obtain ⟨p, hp⟩ : ∃ p, p = n1 + a := ⟨_, rfl⟩
  rw [← hp] at k1 k2
  have HR := Lib.hid (And.intro k1 (And.intro k2 k3))
  have HLB := Lib.hid hlenB
  have HN := Lib.hid hN
  have HP := Lib.hid hp
  clear hp kw kv k1 k2 k3 hxr ha hbq hkp hcp KN hlenB hN
  generalize writeRB x = xb at HV HR HLB
  generalize writeQB Q = qb at HV HR HLB
  go_wp2_with (refine wpList_load_rc rfl (.tmp 4) rfl rfl H5.out.1 ?_)
  refine (HV.out.1 w5 H5.out.2.2.1 H5.out.2.2.2).mono ?_
  rintro e w6 ⟨A6, c6, v6, rfl, hB6, t6, b6⟩
  obtain rfl := t6.none' rfl
  have H6 := Lib.hid (And.intro (H5.out.1.later b6 (Nat.le_refl _)) (And.intro (H5.out.2.1.later b6 (Nat.le_refl _)) (And.intro (H5.out.2.2.1.later b6 (Nat.le_refl _)) (And.intro (hB6) (H5.out.2.2.2.trans (b6.mono H5.out.2.2.2.size))))))
  clear hB6 t6 b6
  go_wp2_with (refine wpList_load_qs rfl (.tmp 5) rfl rfl H6.out.2.1 ?_)
  refine (HV.out.2 w6 H6.out.2.2.2.2).mono ?_
  rintro e w7 ⟨A7, c7, v7, rfl, hB7, t7, b7⟩
  obtain rfl := t7.none' rfl
  have H7 := Lib.hid (And.intro (H6.out.1.later b7 (Nat.le_refl _)) (And.intro (H6.out.2.1.later b7 (Nat.le_refl _)) (And.intro (H6.out.2.2.1.later b7 (Nat.le_refl _)) (And.intro (H6.out.2.2.2.1.later b7 (Nat.le_refl _)) (And.intro (hB7) (H6.out.2.2.2.2.trans (b7.mono H6.out.2.2.2.2.size)))))))
  clear hB7 t7 b7
  go_wp2_with (first
    | (at_builtin; refine wpList_append_bs rfl (.tmp 56) (.tmp 57) 22 rfl w7.heap.size 5 info5 Tryz.underlying22 _ (n1 + a) (l ++ xb) rfl H9.out.1 A7 b c7 qb rfl (H7.out.2.2.2.2.1.later H9.out.2 (Nat.le_refl _)) (by omega) H9.out.2.size ?_; intro v10 w10 o10 g10 n10 m10; have o10' := owns_n (n' := N) (by have := HN.out; omega) o10; obtain ⟨A10, c10, rfl, hB10⟩ := Bs.of_own o10'; have H10 := Lib.hid (And.intro hB10 (H9.out.2.grown g10 H9.out.2.size (fun q hq => (H9.out.1.lt q hq).1))); clear o10 o10' g10 n10 m10 hB10)
    | (at_builtin; refine wpList_append_bs rfl (.tmp 54) (.tmp 55) 22 rfl w7.heap.size 5 info5 Tryz.underlying22 _ n1 l rfl H8.out.1 A6 a c6 xb rfl (H7.out.2.2.2.1.later H8.out.2 (Nat.le_refl _)) (by omega) H8.out.2.size ?_; intro v9 w9 o9 g9 n9 m9; obtain ⟨A9, c9, rfl, _⟩ := Bs.of_own o9; have H9 := Lib.hid (And.intro o9 (H8.out.2.grown g9 H8.out.2.size (fun q hq => (H8.out.1.lt q hq).1))); clear o9 g9 n9 m9)
    | (at_builtin; refine wpList_append_bs rfl (.const (.slice none 0 0)) (.tmp 53) 22 rfl w7.heap.size 5 info5 Tryz.underlying22 _ 0 [] rfl (World.ownsRow_nil _ _ _ _) A1 n1 c1 l rfl (HB1.out.later H7.out.2.2.2.2.2 (Nat.le_refl _)) (by omega) (Nat.le_refl _) ?_; intro v8 w8 o8 g8 n8 m8; have o8' := owns_n (n' := n1) (by omega) o8; rw [List.nil_append] at o8'; obtain ⟨A8, c8, rfl, _⟩ := Bs.of_own o8'; have H8 := Lib.hid (And.intro o8' ((Below.refl _ w7).grown g8 (Nat.le_refl _) (fun q hq => by cases hq))); clear o8 o8' g8 n8 m8))
  have J10 := Lib.hid (And.intro (H7.out.1.later H10.out.2 (Nat.le_refl _)) (And.intro (H7.out.2.1.later H10.out.2 (Nat.le_refl _)) (And.intro (H7.out.2.2.1.later H10.out.2 (Nat.le_refl _)) (And.intro (H10.out.1) (H7.out.2.2.2.2.2.trans (H10.out.2.mono H7.out.2.2.2.2.2.size))))))
  have kr := readR_any J10.out.2.2.2.1 (by have := HN.out; omega) (n1 : Int) (by omega) (HE.out.2.later J10.out.2.2.2.2 (Nat.le_refl _))
  rw [HR.out.1] at kr
  unfold ReadRR at kr
  have KR := Lib.hid kr
  clear kr
  refine KR.out.mono ?_
  rintro e w11 ⟨A11, n11, c11, v11, rfl, hB11, t11, b11⟩
  obtain rfl := t11.none' rfl
  have H11 := Lib.hid (And.intro (J10.out.1.later b11 (Nat.le_refl _)) (And.intro (J10.out.2.1.later b11 (Nat.le_refl _)) (And.intro (J10.out.2.2.1.later b11 (Nat.le_refl _)) (And.intro (J10.out.2.2.2.1.later b11 (Nat.le_refl _)) (And.intro (hB11) (J10.out.2.2.2.2.trans (b11.mono J10.out.2.2.2.2.size)))))))
  clear hB11 t11 b11
  go_wp2_with (first
    | (refine wpList_store_rc rfl (.tmp 14) (.tmp 64) rfl x A11 n11 c11 rfl rfl HX.out.ok H12.out.1 ?_; intro w13 a13 f13 z13 g13; have b13 := g13 w11.heap.size w11 (Nat.le_refl _) H12.out.2; have H13 := Lib.hid (And.intro (H11.out.1.later b13 (Nat.le_refl _)) (And.intro (H11.out.2.1.later b13 (Nat.le_refl _)) (And.intro (H11.out.2.2.1.later b13 (Nat.le_refl _)) (And.intro (H11.out.2.2.2.1.later b13 (Nat.le_refl _)) (And.intro (H11.out.2.2.2.2.1.later b13 (Nat.le_refl _)) (And.intro (a13) (H11.out.2.2.2.2.2.trans (b13.mono H11.out.2.2.2.2.2.size)))))))); clear a13 f13 z13 g13 b13)
    | (refine wpList_alloc_rc rfl rfl ?_; intro w12 a12 g12 z12; have H12 := Lib.hid (And.intro a12 g12); clear a12 g12 z12))
  have kq := readQ_any H13.out.2.2.2.1 (by have := HN.out; omega) (p : Int) (by have := HP.out; omega)
  rw [HR.out.2.1] at kq
  unfold ReadQR at kq
  have KQ := Lib.hid kq
  clear kq
  refine KQ.out.mono ?_
  rintro e w14 ⟨v14, rfl, t14, b14⟩
  obtain rfl := t14.none' rfl
  have H14 := Lib.hid (And.intro (H13.out.1.later b14 (Nat.le_refl _)) (And.intro (H13.out.2.1.later b14 (Nat.le_refl _)) (And.intro (H13.out.2.2.1.later b14 (Nat.le_refl _)) (And.intro (H13.out.2.2.2.1.later b14 (Nat.le_refl _)) (And.intro (H13.out.2.2.2.2.1.later b14 (Nat.le_refl _)) (And.intro (H13.out.2.2.2.2.2.1.later b14 (Nat.le_refl _)) (H13.out.2.2.2.2.2.2.trans (b14.mono H13.out.2.2.2.2.2.2.size))))))))
  clear t14 b14
  have hmx : max (1 : Int) (a : Int) = (a : Int) := by omega
  have hu : IntKind.u64.wrap (a : Int) = (a : Int) := by
    show (a : Int) % 18446744073709551616 = _
    omega
  have hNc := H14.out.2.2.2.1.cap
  have u1 : (n1 : Int) + (d : Int) ≤ (c10 : Int) := by have := HN.out; omega
  go_wp2_with (first
    | (refine wpList_store_qs rfl (.tmp 17) (.tmp 71) rfl Q rfl rfl H15.out.1 ?_; intro w16 a16 f16 z16 g16; have b16 := g16 w14.heap.size w14 (Nat.le_refl _) H15.out.2; have H16 := Lib.hid (And.intro (H14.out.1.later b16 (Nat.le_refl _)) (And.intro (H14.out.2.1.later b16 (Nat.le_refl _)) (And.intro (H14.out.2.2.1.later b16 (Nat.le_refl _)) (And.intro (H14.out.2.2.2.1.later b16 (Nat.le_refl _)) (And.intro (H14.out.2.2.2.2.1.later b16 (Nat.le_refl _)) (And.intro (H14.out.2.2.2.2.2.1.later b16 (Nat.le_refl _)) (And.intro (a16) (H14.out.2.2.2.2.2.2.trans (b16.mono H14.out.2.2.2.2.2.2.size))))))))); clear a16 f16 z16 g16 b16)
    | (refine wpList_alloc_qs rfl rfl ?_; intro w15 a15 g15 z15; have H15 := Lib.hid (And.intro a15 g15); clear a15 g15 z15))
  have hcut := H16.out.2.2.2.1.cut (i := 0) (k := n1 + d) (by have := HN.out; omega) (A' := A10) (fun _ => by cases A10 <;> simp [Addr.add]) (fun h => h)
  rw [List.drop_zero, Nat.sub_zero] at hcut
  have kr3 := readR_any hcut (by have := HN.out; omega) (n1 : Int) (by omega) (HE.out.2.later H16.out.2.2.2.2.2.2.2 (Nat.le_refl _))
  have h3 := HR.out.2.2
  have hz := readR_zero (show (readRv ((l ++ xb ++ qb).take (n1 + d)) (n1 + d) n1).f.code ≠ 0 by rw [h3]; decide)
  unfold ReadRR at kr3
  clear HR hcut
  generalize readRv ((l ++ xb ++ qb).take (n1 + d)) (n1 + d) n1 = R3 at kr3 h3 hz
  obtain ⟨r3, x3, f3⟩ := R3
  dsimp only at kr3 h3 hz
  subst hz
  have KR3 := Lib.hid kr3
  have HC3 := Lib.hid h3
  clear kr3 h3
  refine KR3.out.mono ?_
  rintro e w17 ⟨A17, n17, c17, v17, rfl, _, t17, b17⟩
  obtain ⟨T, y, rfl⟩ := t17.held' (by rw [HC3.out]; decide)
  have H17 := Lib.hid (And.intro (H16.out.1.later b17 (Nat.le_refl _)) (And.intro (H16.out.2.1.later b17 (Nat.le_refl _)) (And.intro (H16.out.2.2.1.later b17 (Nat.le_refl _)) (And.intro (H16.out.2.2.2.2.1.later b17 (Nat.le_refl _)) (And.intro (H16.out.2.2.2.2.2.1.later b17 (Nat.le_refl _)) (And.intro (H16.out.2.2.2.2.2.2.1.later b17 (Nat.le_refl _)) (And.intro (t17) (H16.out.2.2.2.2.2.2.2.trans (b17.mono H16.out.2.2.2.2.2.2.2.size)))))))))
  clear t17 b17
  go_wp2_with (first
    | (refine wpList_store_rc rfl (.tmp 20) (.tmp 92) rfl .zero A17 n17 c17 rfl rfl Rc.zero_ok H18.out.1 ?_; intro w19 a19 f19 z19 g19; have b19 := g19 w17.heap.size w17 (Nat.le_refl _) H18.out.2; have H19 := Lib.hid (And.intro (H17.out.1.later b19 (Nat.le_refl _)) (And.intro (H17.out.2.1.later b19 (Nat.le_refl _)) (And.intro (H17.out.2.2.1.later b19 (Nat.le_refl _)) (And.intro (H17.out.2.2.2.1.later b19 (Nat.le_refl _)) (And.intro (H17.out.2.2.2.2.1.later b19 (Nat.le_refl _)) (And.intro (H17.out.2.2.2.2.2.1.later b19 (Nat.le_refl _)) (And.intro (H17.out.2.2.2.2.2.2.1.later b19 (Nat.le_refl _)) (H17.out.2.2.2.2.2.2.2.trans (b19.mono H17.out.2.2.2.2.2.2.2.size))))))))); clear a19 f19 z19 g19 b19)
    | (refine wpList_alloc_rc rfl rfl ?_; intro w18 a18 g18 z18; have H18 := Lib.hid (And.intro a18 g18); clear a18 g18 z18))
  refine (awake13 (HE.out.1.later H19.out.2.2.2.2.2.2.2 (Nat.le_refl _))).mono ?_
  rintro e w20 ⟨rfl, b20⟩
  have H20 := Lib.hid (And.intro (H19.out.1.later b20 (Nat.le_refl _)) (And.intro (H19.out.2.1.later b20 (Nat.le_refl _)) (And.intro (H19.out.2.2.1.later b20 (Nat.le_refl _)) (And.intro (H19.out.2.2.2.1.later b20 (Nat.le_refl _)) (And.intro (H19.out.2.2.2.2.1.later b20 (Nat.le_refl _)) (And.intro (H19.out.2.2.2.2.2.1.later b20 (Nat.le_refl _)) (And.intro (H19.out.2.2.2.2.2.2.1.later b20 (Nat.le_refl _)) (H19.out.2.2.2.2.2.2.2.trans (b20.mono H19.out.2.2.2.2.2.2.2.size)))))))))
  clear b20
  go_wp2_with (first
    | (refine wpList_wanted (by rfl) (wp_load_rc (.tmp 14) rfl rfl H20.out.2.2.2.2.1 ?_))
    | (refine wpList_wanted (by rfl) (wp_load_rc (.tmp 4) rfl rfl H20.out.1 ?_)))
  refine (record_same HX.out.ok H20.out.2.2.2.1 H20.out.2.2.1).mono ?_
  rintro e w21 ⟨rfl, b21⟩
  have H21 := Lib.hid (And.intro (H20.out.2.1.later b21 (Nat.le_refl _)) (And.intro (H20.out.2.2.2.2.2.1.later b21 (Nat.le_refl _)) (And.intro (H20.out.2.2.2.2.2.2.1.later b21 (Nat.le_refl _)) (H20.out.2.2.2.2.2.2.2.trans (b21.mono H20.out.2.2.2.2.2.2.2.size)))))
  clear b21
  have heq := eql_qs Q
  have hpe : ((p : Int) == (n1 : Int) + (a : Int)) = true := by have := HP.out; rw [beq_iff_eq]; omega
  go_wp2_with (first
    | (refine wpList_load_qs_w (by rfl) (.tmp 17) rfl rfl H21.out.2.1 ?_)
    | (refine wpList_load_qs_w (by rfl) (.tmp 5) rfl rfl H21.out.1 ?_))
  have kc := help_code H21.out.2.2.1 (by rw [HC3.out]; decide) (HE.out.2.later H21.out.2.2.2 (Nat.le_refl _))
  rw [HC3.out] at kc
  refine kc.mono ?_
  clear kc
  rintro e w22 ⟨rfl, b22⟩
  have H22 := Lib.hid (H21.out.2.2.2.trans (b22.mono H21.out.2.2.2.size))
  clear b22
  go_wp2_with fail
  go_ret
  exact ⟨rfl, H22.out⟩
end Go.Proofs.YtddnfbkmhgflbaaGreatDoor
