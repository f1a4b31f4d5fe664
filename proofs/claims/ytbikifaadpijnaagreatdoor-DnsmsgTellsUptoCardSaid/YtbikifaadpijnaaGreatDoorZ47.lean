/-
  stockaderef12.WriteMessage: what the document tells of a message's bytes. Conditions: those of the slices; at most a hundred questions, and records; texts of 10,000 letters at most.
  stockaderef12.Parse: what the document tells of a message's bytes. Conditions: those of the slice; a million bytes at most.
-/
import Derived.Test.YtbikifaadpijnaaGreatDoorZ46
import Derived.Test.YtbikifaadpijnaaGreatDoorZ44
import Derived.Test.YtbikifaadpijnaaGreatDoorZ25
import Derived.Test.YtbikifaadpijnaaGreatDoorZ45
import Derived.Test.YtbikifaadpijnaaGreatDoorZ17
import Derived.Test.YtbikifaadpijnaaGreatDoorZ19
import Derived.IntWalk
import Derived.Deep.DeepCutAuto
namespace Go.Proofs.YtbikifaadpijnaaGreatDoor
open Go.RowKit
set_option maxRecDepth 100000

structure Ms10 (m : Ms) : Prop where
  qs : ∀ q ∈ m.qs, q.name.length ≤ 10000
  rs : ∀ r ∈ recs m, (r.name.length ≤ 10000 ∧ r.target.length ≤ 10000) ∧ (0 ≤ r.ttl ∧ r.ttl < 4294967296)
theorem wB10 (l : List UInt8) : (writeB l).length ≤ l.length + 2 := by
  rw [writeB_length]
  split <;> omega
theorem wQ10 {q : Qs} (h : q.name.length ≤ 10000) : (writeQB q).length ≤ 20000 := by
  have := wB10 q.name
  unfold writeQB
  simp only [List.length_append, putn_length]
  omega
theorem wR10 {r : Rc} (h : r.name.length ≤ 10000) (h2 : r.target.length ≤ 10000) (h3 : r.data.length ≤ 1000) (hk : r.ok) : (writeRB r).length ≤ 40000 := by
  have h4 : (writeQB r.asks).length ≤ 20000 := wQ10 h
  have h5 : (dataB r).length ≤ 10002 := by
    unfold dataB
    have := wB10 r.target
    have hk' : r.adr.length = 16 := hk
    split
    · rw [List.length_take]; omega
    · split <;> omega
  unfold writeRB
  simp only [List.length_append, putn_length]
  omega
theorem qsB_take {qs : List Qs} {j : Nat} {q : Qs} (h : qs[j]? = some q) : qsB (qs.take (j + 1)) = qsB (qs.take j) ++ writeQB q := by
  unfold qsB
  rw [List.take_add_one, h]
  simp
theorem rsB_take {rs : List Rc} {j : Nat} {r : Rc} (h : rs[j]? = some r) : rsB (rs.take (j + 1)) = rsB (rs.take j) ++ writeRB r := by
  unfold rsB
  rw [List.take_add_one, h]
  simp
theorem mem_take_succ {α : Type} {l : List α} {j : Nat} {x y : α} (h : l[j]? = some x) (hy : y ∈ l.take (j + 1)) : y ∈ l.take j ∨ y = x := by
  rw [List.take_add_one, h] at hy
  rcases List.mem_append.1 hy with h | h
  · exact Or.inl h
  · exact Or.inr (by simpa using h)
def RefM (l : List UInt8) (f : Fl) (w : World) (e : Ending) (w' : World) : Prop := ∃ A' n' c', e = .returned (.tuple #[.slice A' n' c', .agg (flv f.code f.at_ f.placed)]) ∧ Bs w' A' n' c' l ∧ Below w.heap.size w w'
set_option maxHeartbeats 16000000 in
theorem ref_writeM {lo : Nat} {sq sa su se : Sl} {m : Ms} {w : World} (hm : MsM lo w sq sa su se m) (h10 : Ms10 m) (hr : (recs m).length ≤ 100) (hq : m.qs.length ≤ 100) : Calls Tryz.prog 11 #[.agg (msv m.h sq sa su se)] w (RefM (writeMv m) (writeMe m) w) := by
  obtain ⟨VL, hVL⟩ : ∃ l, writeMv m = l := ⟨_, rfl⟩
  obtain ⟨VE, hVE⟩ : ∃ f, writeMe m = f := ⟨_, rfl⟩
  rw [hVL, hVE]
  have HV := Lib.hid (And.intro hVL hVE)
  have H10 := Lib.hid h10
  clear hVL hVE h10
  have a1 := MsBox.new w m.h sq sa su se
  have b1 : Below w.heap.size w (w.alloc (.cells (msv m.h sq sa su se) 26)) := (Below.refl _ _).alloc (Nat.le_refl _) _
  obtain ⟨W, hW⟩ : ∃ W, w.alloc (.cells (msv m.h sq sa su se) 26) = W := ⟨_, rfl⟩
  rw [hW] at a1 b1
  have HW := Lib.hid hW
  have HA := Lib.hid (And.intro a1 b1)
  have hww := a1.lt
  have HM := Lib.hid hm
  have hla := hm.an.len
  have hlu := hm.au.len
  have hle := hm.ex.len
  have hlq := hm.qs.len
  clear a1 b1 hW hm
  have hcount : sa.n + su.n + se.n ≤ 100 := by
    unfold recs at hr
    rw [List.length_append, List.length_append] at hr
    omega
  go_enter Tryz.func11, Tryz.ntmps11
  go_wp2_with (first
    | (rw [HW.out])
    | (refine wpList_alloc_fl rfl rfl ?_; intro w2 a2 b2 z2; have H2 := Lib.hid (And.intro (HA.out.1.later b2 (Nat.le_refl _)) (And.intro a2 (HA.out.2.trans (b2.mono HA.out.2.size)))); have lt2 := a2.lt; clear a2 b2 z2))
  have HM2 := Lib.hid (HM.out.later H2.out.2.2 (Nat.le_refl _))
  obtain ⟨da, hda⟩ := HM2.out.an.known
  obtain ⟨du, hdu⟩ := HM2.out.au.known
  obtain ⟨de, hde⟩ := HM2.out.ex.known
  have HK := Lib.hid (And.intro hda (And.intro hdu hde))
  clear hda hdu hde
  have hS : Below w2.heap.size w2 w2.drew := (Below.refl _ _).drew
  have r6 : ∀ w', Below w2.heap.size w2 w' → w'.cell? ⟨w.heap.size, 6, none⟩ = some (.slice sa.A sa.n sa.c) := fun w' h => (H2.out.1.later h (Nat.le_refl _)).cell 6
  have r7 : ∀ w', Below w2.heap.size w2 w' → w'.cell? ⟨w.heap.size, 7, none⟩ = some (.slice su.A su.n su.c) := fun w' h => (H2.out.1.later h (Nat.le_refl _)).cell 7
  have r8 : ∀ w', Below w2.heap.size w2 w' → w'.cell? ⟨w.heap.size, 8, none⟩ = some (.slice se.A se.n se.c) := fun w' h => (H2.out.1.later h (Nat.le_refl _)).cell 8
  refine rg_begin (fun w' => Below w2.heap.size w2 w') 10 (by kernel_rfl) rfl ?_
  refine rg_take 0 (v := ?rv1) rfl (by kernel_rfl) (by kernel_rfl) (by kernel_rfl) (fun _ _ _ h => h) (by rfl) hS (fun w2 hw2 => ?ry1) ?rr1
  case ry1 => ((try dsimp only at hw2); go_simp <;> with_reducible rfl)
  simp only [Act.put, List.setIfInBounds_toArray, List.set_cons_zero, List.set_cons_succ]
  refine rg_take 3 (v := ?rv2) rfl (by kernel_rfl) (by kernel_rfl) (by kernel_rfl) (fun _ _ _ h => h) (by rfl) hS (fun w2 hw2 => ?ry2) ?rr2
  case ry2 => ((try dsimp only at hw2); go_simp <;> with_reducible rfl)
  simp only [Act.put, List.setIfInBounds_toArray, List.set_cons_zero, List.set_cons_succ]
  refine rg_take 6 (v := ?rv3) rfl (by kernel_rfl) (by kernel_rfl) (by kernel_rfl) (fun _ _ _ h => h) (by rfl) hS (fun w2 hw2 => ?ry3) ?rr3
  case ry3 => ((try dsimp only at hw2); go_simp <;> with_reducible rfl)
  simp only [Act.put, List.setIfInBounds_toArray, List.set_cons_zero, List.set_cons_succ]
  refine rg_take 1 (v := ?rv4) rfl (by kernel_rfl) (by kernel_rfl) (by kernel_rfl) (fun _ _ _ h => h) (by rfl) hS (fun w2 hw2 => ?ry4) ?rr4
  case ry4 => ((try dsimp only at hw2); go_simp <;> with_reducible rfl)
  simp only [Act.put, List.setIfInBounds_toArray, List.set_cons_zero, List.set_cons_succ]
  refine rg_take 4 (v := ?rv5) rfl (by kernel_rfl) (by kernel_rfl) (by kernel_rfl) (fun _ _ _ h => h) (by rfl) hS (fun w2 hw2 => ?ry5) ?rr5
  case ry5 => ((try dsimp only at hw2); go_simp <;> with_reducible rfl)
  simp only [Act.put, List.setIfInBounds_toArray, List.set_cons_zero, List.set_cons_succ]
  refine rg_take 7 (v := ?rv6) rfl (by kernel_rfl) (by kernel_rfl) (by kernel_rfl) (fun _ _ _ h => h) (by rfl) hS (fun w2 hw2 => ?ry6) ?rr6
  case ry6 => ((try dsimp only at hw2); go_simp <;> with_reducible rfl)
  simp only [Act.put, List.setIfInBounds_toArray, List.set_cons_zero, List.set_cons_succ]
  clear r6 r7 r8
  refine rg_step 2 rfl (by kernel_rfl) (by rfl) (fun K hK => ?_)
  refine wp_cat_rc (.const (.slice none 0 0)) (.tmp 14) rfl w2.heap.size (.slice none 0 0) [] [] rfl (RcO.nil 0 _ _) sa.A sa.n sa.c m.an da rfl (HK.out.1.later hS (Nat.le_refl _)) (fun _ _ _ _ _ => ⟨(fun e => by cases e), Nat.zero_le _⟩) (by show 0 + sa.n ≤ _; omega) hS.size ?_
  intro v1 u1 o1 g1
  replace hS := hS.grown g1 hS.size (fun q hq => by cases hq)
  refine hK.out _ _ hS ?_
  clear hK K
  try simp only [Act.put, List.setIfInBounds_toArray, List.set_cons_zero, List.set_cons_succ]
  refine rg_step 5 rfl (by kernel_rfl) (by rfl) (fun K hK => ?_)
  refine wp_cat_rc (.tmp 15) (.tmp 17) rfl w2.heap.size v1 _ _ rfl o1 su.A su.n su.c m.au du rfl (HK.out.2.1.later hS (Nat.le_refl _)) (fun s hs hn a ha => ⟨(fun e => by have h1 := HK.out.2.1.blk s hs hn a ha; have h2 := (World.ownsRow.lt o1.own a.block e.symm).1; omega), Nat.zero_le _⟩) (by show m.an.length + su.n ≤ _; omega) hS.size ?_
  intro v2 u2 o2 g2
  replace hS := hS.grown g2 hS.size (fun q hq => (World.ownsRow.lt o1.own q hq).1)
  clear o1 g1
  refine hK.out _ _ hS ?_
  clear hK K
  try simp only [Act.put, List.setIfInBounds_toArray, List.set_cons_zero, List.set_cons_succ]
  refine rg_step 8 rfl (by kernel_rfl) (by rfl) (fun K hK => ?_)
  refine wp_cat_rc (.tmp 18) (.tmp 20) rfl w2.heap.size v2 _ _ rfl o2 se.A se.n se.c m.ex de rfl (HK.out.2.2.later hS (Nat.le_refl _)) (fun s hs hn a ha => ⟨(fun e => by have h1 := HK.out.2.2.blk s hs hn a ha; have h2 := (World.ownsRow.lt o2.own a.block e.symm).1; omega), Nat.zero_le _⟩) (by show (m.an ++ m.au).length + se.n ≤ _; rw [List.length_append]; omega) hS.size ?_
  intro v3 u3 o3 g3
  replace hS := hS.grown g3 hS.size (fun q hq => (World.ownsRow.lt o2.own q hq).1)
  clear o2 g2 g3
  rw [show ([] ++ m.an ++ m.au ++ m.ex : List Rc) = recs m by simp [recs]] at o3
  obtain ⟨A3, c3, rfl, S3⟩ := RcS.of_own o3 (Nat.zero_le _)
  obtain ⟨n3, hn3⟩ : ∃ n, (recs m).length = n := ⟨_, rfl⟩
  rw [hn3] at S3 ⊢
  clear o3
  refine hK.out _ _ hS ?_
  clear hK K
  try simp only [Act.put, List.setIfInBounds_toArray, List.set_cons_zero, List.set_cons_succ]
  refine rg_take 9 (v := ?rv7) rfl (by kernel_rfl) (by kernel_rfl) (by kernel_rfl) (fun _ _ _ h => h) (by rfl) hS (fun w2 hw2 => ?ry7) ?rr7
  case ry7 => ((try dsimp only at hw2); go_simp <;> with_reducible rfl)
  simp only [Act.put, List.setIfInBounds_toArray, List.set_cons_zero, List.set_cons_succ]
  refine rg_done (by kernel_rfl) ?_
  have hn3' : n3 ≤ 100 := by omega
  have hcap3 := S3.cap
  have hmax3 := S3.max
  unfold maxLen at hmax3
  have HN3 := Lib.hid hn3
  have HU := Lib.hid (And.intro (H2.out.1.later hS (Nat.le_refl _)) (And.intro (H2.out.2.1.later hS (Nat.le_refl _)) (And.intro S3 (And.intro (HM2.out.later hS (Nat.le_refl _)) (H2.out.2.2.trans (hS.mono H2.out.2.2.size))))))
  have ltU := Nat.lt_of_lt_of_le lt2 hS.size
  have hqc := HM2.out.qs.cap
  have hqm := HM2.out.qs.max
  unfold maxLen at hqm
  clear S3 hS hn3 lt2
  have c0 : u3.cell? ⟨w.heap.size, 0, none⟩ = some (.int .i64 m.h.id) := HU.out.1.cell 0
  have c1 : u3.cell? ⟨w.heap.size, 1, none⟩ = some (.bool m.h.reply) := HU.out.1.cell 1
  have c2 : u3.cell? ⟨w.heap.size, 2, none⟩ = some (.int .i64 m.h.opcode) := HU.out.1.cell 2
  have c3' : u3.cell? ⟨w.heap.size, 3, none⟩ = some (.int .i64 m.h.code) := HU.out.1.cell 3
  have c4 : u3.cell? ⟨w.heap.size, 4, none⟩ = some (.int .i64 m.h.flags) := HU.out.1.cell 4
  have c5 : u3.cell? ⟨w.heap.size, 5, none⟩ = some (.slice sq.A sq.n sq.c) := HU.out.1.cell 5
  have HLU := Lib.hid ltU
  clear ltU
  go_wp2_with fail
  refine (two_any m.h.id _).mono ?_
  rintro e _ ⟨rfl, rfl⟩
  by_cases p0 : shortI m.h.id
  case neg =>
    --<< w0
    rw [decide_eq_false p0]
    have hbad : ¬ rightM m := fun h => absurd ⟨h.1.1.1.1, h.1.1.1.2⟩ p0
    have hv := wr_no hbad
    rw [HV.out.1, HV.out.2] at hv
    have HVV := Lib.hid hv
    clear hbad hv
    go_wp2_with fail
    refine (help_bare 1 _).mono ?_
    rintro e u4 ⟨rfl, b4⟩
    have H4 := Lib.hid (And.intro (HU.out.2.1.later b4 (Nat.le_refl _)) (HU.out.2.2.2.2.trans (b4.mono HU.out.2.2.2.2.size)))
    clear b4
    go_wp2_with (refine wpList_store_fl rfl (.tmp 3) (.tmp 65) rfl 1 0 false rfl rfl H4.out.1 ?_; intro u5 a5 o5 z5 g5; have H5 := Lib.hid (And.intro a5 (g5 _ _ (Nat.le_of_lt hww) H4.out.2)); clear a5 o5 z5 g5)
    refine bodyPost_ret (results_tmp_fl rfl _ rfl H5.out.1) rfl ?_
    rw [HVV.out.1, HVV.out.2]
    exact ⟨none, 0, 0, rfl, Bs.nil _, H5.out.2⟩
    -->>
  rw [decide_eq_true p0]
  by_cases p1 : m.h.opcode < 0
  case pos =>
    --<< w1
    have d1 : decide (m.h.opcode < 0) = true := decide_eq_true (by omega)
    have hbad : ¬ rightM m := fun h => by have := h.1.1.2.1.1; omega
    have hv := wr_no hbad
    rw [HV.out.1, HV.out.2] at hv
    have HVV := Lib.hid hv
    clear hbad hv
    go_wp2_with fail
    refine (help_bare 1 _).mono ?_
    rintro e u4 ⟨rfl, b4⟩
    have H4 := Lib.hid (And.intro (HU.out.2.1.later b4 (Nat.le_refl _)) (HU.out.2.2.2.2.trans (b4.mono HU.out.2.2.2.2.size)))
    clear b4
    go_wp2_with (refine wpList_store_fl rfl (.tmp 3) (.tmp 65) rfl 1 0 false rfl rfl H4.out.1 ?_; intro u5 a5 o5 z5 g5; have H5 := Lib.hid (And.intro a5 (g5 _ _ (Nat.le_of_lt hww) H4.out.2)); clear a5 o5 z5 g5)
    refine bodyPost_ret (results_tmp_fl rfl _ rfl H5.out.1) rfl ?_
    rw [HVV.out.1, HVV.out.2]
    exact ⟨none, 0, 0, rfl, Bs.nil _, H5.out.2⟩
    -->>
  have d1 : decide (m.h.opcode < 0) = false := decide_eq_false (by omega)
  by_cases p2 : 15 < m.h.opcode
  case pos =>
    --<< w2
    have d2 : decide ((15 : Int) < m.h.opcode) = true := decide_eq_true (by omega)
    have hbad : ¬ rightM m := fun h => by have := h.1.1.2.1.2; omega
    have hv := wr_no hbad
    rw [HV.out.1, HV.out.2] at hv
    have HVV := Lib.hid hv
    clear hbad hv
    go_wp2_with fail
    refine (help_bare 1 _).mono ?_
    rintro e u4 ⟨rfl, b4⟩
    have H4 := Lib.hid (And.intro (HU.out.2.1.later b4 (Nat.le_refl _)) (HU.out.2.2.2.2.trans (b4.mono HU.out.2.2.2.2.size)))
    clear b4
    go_wp2_with (refine wpList_store_fl rfl (.tmp 3) (.tmp 65) rfl 1 0 false rfl rfl H4.out.1 ?_; intro u5 a5 o5 z5 g5; have H5 := Lib.hid (And.intro a5 (g5 _ _ (Nat.le_of_lt hww) H4.out.2)); clear a5 o5 z5 g5)
    refine bodyPost_ret (results_tmp_fl rfl _ rfl H5.out.1) rfl ?_
    rw [HVV.out.1, HVV.out.2]
    exact ⟨none, 0, 0, rfl, Bs.nil _, H5.out.2⟩
    -->>
  have d2 : decide ((15 : Int) < m.h.opcode) = false := decide_eq_false (by omega)
  by_cases p3 : m.h.code < 0
  case pos =>
    --<< w3
    have d3 : decide (m.h.code < 0) = true := decide_eq_true (by omega)
    have hbad : ¬ rightM m := fun h => by have := h.1.1.2.2.2.1; omega
    have hv := wr_no hbad
    rw [HV.out.1, HV.out.2] at hv
    have HVV := Lib.hid hv
    clear hbad hv
    go_wp2_with fail
    refine (help_bare 1 _).mono ?_
    rintro e u4 ⟨rfl, b4⟩
    have H4 := Lib.hid (And.intro (HU.out.2.1.later b4 (Nat.le_refl _)) (HU.out.2.2.2.2.trans (b4.mono HU.out.2.2.2.2.size)))
    clear b4
    go_wp2_with (refine wpList_store_fl rfl (.tmp 3) (.tmp 65) rfl 1 0 false rfl rfl H4.out.1 ?_; intro u5 a5 o5 z5 g5; have H5 := Lib.hid (And.intro a5 (g5 _ _ (Nat.le_of_lt hww) H4.out.2)); clear a5 o5 z5 g5)
    refine bodyPost_ret (results_tmp_fl rfl _ rfl H5.out.1) rfl ?_
    rw [HVV.out.1, HVV.out.2]
    exact ⟨none, 0, 0, rfl, Bs.nil _, H5.out.2⟩
    -->>
  have d3 : decide (m.h.code < 0) = false := decide_eq_false (by omega)
  by_cases p4 : 15 < m.h.code
  case pos =>
    --<< w4
    have d4 : decide ((15 : Int) < m.h.code) = true := decide_eq_true (by omega)
    have hbad : ¬ rightM m := fun h => by have := h.1.1.2.2.2.2; omega
    have hv := wr_no hbad
    rw [HV.out.1, HV.out.2] at hv
    have HVV := Lib.hid hv
    clear hbad hv
    go_wp2_with fail
    refine (help_bare 1 _).mono ?_
    rintro e u4 ⟨rfl, b4⟩
    have H4 := Lib.hid (And.intro (HU.out.2.1.later b4 (Nat.le_refl _)) (HU.out.2.2.2.2.trans (b4.mono HU.out.2.2.2.2.size)))
    clear b4
    go_wp2_with (refine wpList_store_fl rfl (.tmp 3) (.tmp 65) rfl 1 0 false rfl rfl H4.out.1 ?_; intro u5 a5 o5 z5 g5; have H5 := Lib.hid (And.intro a5 (g5 _ _ (Nat.le_of_lt hww) H4.out.2)); clear a5 o5 z5 g5)
    refine bodyPost_ret (results_tmp_fl rfl _ rfl H5.out.1) rfl ?_
    rw [HVV.out.1, HVV.out.2]
    exact ⟨none, 0, 0, rfl, Bs.nil _, H5.out.2⟩
    -->>
  have d4 : decide ((15 : Int) < m.h.code) = false := decide_eq_false (by omega)
  by_cases p5 : m.h.flags < 0
  case pos =>
    --<< w5
    have d5 : decide (m.h.flags < 0) = true := decide_eq_true (by omega)
    have hbad : ¬ rightM m := fun h => by have := h.1.1.2.2.1.1; omega
    have hv := wr_no hbad
    rw [HV.out.1, HV.out.2] at hv
    have HVV := Lib.hid hv
    clear hbad hv
    go_wp2_with fail
    refine (help_bare 1 _).mono ?_
    rintro e u4 ⟨rfl, b4⟩
    have H4 := Lib.hid (And.intro (HU.out.2.1.later b4 (Nat.le_refl _)) (HU.out.2.2.2.2.trans (b4.mono HU.out.2.2.2.2.size)))
    clear b4
    go_wp2_with (refine wpList_store_fl rfl (.tmp 3) (.tmp 65) rfl 1 0 false rfl rfl H4.out.1 ?_; intro u5 a5 o5 z5 g5; have H5 := Lib.hid (And.intro a5 (g5 _ _ (Nat.le_of_lt hww) H4.out.2)); clear a5 o5 z5 g5)
    refine bodyPost_ret (results_tmp_fl rfl _ rfl H5.out.1) rfl ?_
    rw [HVV.out.1, HVV.out.2]
    exact ⟨none, 0, 0, rfl, Bs.nil _, H5.out.2⟩
    -->>
  have d5 : decide (m.h.flags < 0) = false := decide_eq_false (by omega)
  by_cases p6 : 127 < m.h.flags
  case pos =>
    --<< w6
    have d6 : decide ((127 : Int) < m.h.flags) = true := decide_eq_true (by omega)
    have hbad : ¬ rightM m := fun h => by have := h.1.1.2.2.1.2; omega
    have hv := wr_no hbad
    rw [HV.out.1, HV.out.2] at hv
    have HVV := Lib.hid hv
    clear hbad hv
    go_wp2_with fail
    refine (help_bare 1 _).mono ?_
    rintro e u4 ⟨rfl, b4⟩
    have H4 := Lib.hid (And.intro (HU.out.2.1.later b4 (Nat.le_refl _)) (HU.out.2.2.2.2.trans (b4.mono HU.out.2.2.2.2.size)))
    clear b4
    go_wp2_with (refine wpList_store_fl rfl (.tmp 3) (.tmp 65) rfl 1 0 false rfl rfl H4.out.1 ?_; intro u5 a5 o5 z5 g5; have H5 := Lib.hid (And.intro a5 (g5 _ _ (Nat.le_of_lt hww) H4.out.2)); clear a5 o5 z5 g5)
    refine bodyPost_ret (results_tmp_fl rfl _ rfl H5.out.1) rfl ?_
    rw [HVV.out.1, HVV.out.2]
    exact ⟨none, 0, 0, rfl, Bs.nil _, H5.out.2⟩
    -->>
  have d6 : decide ((127 : Int) < m.h.flags) = false := decide_eq_false (by omega)
  by_cases p7 : 64 < sq.n + n3
  case pos =>
    --<< w7
    have d7 : decide ((64 : Int) < (sq.n : Int) + (n3 : Int)) = true := decide_eq_true (by omega)
    have hbad : ¬ rightM m := fun h => by have h1 := h.1.2; unfold countM at h1; have h2 := HN3.out; omega
    have hv := wr_no hbad
    rw [HV.out.1, HV.out.2] at hv
    have HVV := Lib.hid hv
    clear hbad hv
    go_wp2_with fail
    refine (help_bare 1 _).mono ?_
    rintro e u4 ⟨rfl, b4⟩
    have H4 := Lib.hid (And.intro (HU.out.2.1.later b4 (Nat.le_refl _)) (HU.out.2.2.2.2.trans (b4.mono HU.out.2.2.2.2.size)))
    clear b4
    go_wp2_with (refine wpList_store_fl rfl (.tmp 3) (.tmp 65) rfl 1 0 false rfl rfl H4.out.1 ?_; intro u5 a5 o5 z5 g5; have H5 := Lib.hid (And.intro a5 (g5 _ _ (Nat.le_of_lt hww) H4.out.2)); clear a5 o5 z5 g5)
    refine bodyPost_ret (results_tmp_fl rfl _ rfl H5.out.1) rfl ?_
    rw [HVV.out.1, HVV.out.2]
    exact ⟨none, 0, 0, rfl, Bs.nil _, H5.out.2⟩
    -->>
  have d7 : decide ((64 : Int) < (sq.n : Int) + (n3 : Int)) = false := decide_eq_false (by omega)
  have hrh : rightH m.h := ⟨⟨p0.1, p0.2⟩, ⟨by omega, by omega⟩, ⟨by omega, by omega⟩, by omega, by omega⟩
  have hcm : countM m ≤ 64 := by unfold countM; have h2 := HN3.out; omega
  have HRH := Lib.hid (And.intro hrh hcm)
  clear hrh hcm
  have hraw : bits .or .i64 (bits .or .i64 (m.h.opcode * 2048) (m.h.flags * 16)) m.h.code = rawB m.h := by
    unfold rawB
    rw [show wrap64 (m.h.opcode * 2048) = m.h.opcode * 2048 by unfold wrap64; omega, show wrap64 (m.h.flags * 16) = m.h.flags * 16 by unfold wrap64; omega]
  have HRAW := Lib.hid hraw
  clear hraw
  go_upto_if 77 with fail
  go_cut [5] (fun v wy => v = .int .i64 (bitsV m.h) ∧ wy = u3)
  case first =>
    cases hre : m.h.reply
    case false =>
      rw [hre] at c1
      go_wp2_with fail
      go_meet
      exact ⟨by rw [HRAW.out]; unfold bitsV; rw [(rawB_eq HRH.out.1).1, hre]; simp, rfl⟩
    case true =>
      rw [hre] at c1
      go_wp2_with fail
      go_meet
      exact ⟨by rw [HRAW.out]; unfold bitsV; rw [(rawB_eq HRH.out.1).2.2, (rawB_eq HRH.out.1).1, hre]; simp, rfl⟩
  case rest =>
  obtain ⟨rfl, hwc⟩ := hcut
  rw [hwc]
  clear hwc c0 c1 c2 c3' c4 c5 d1 d2 d3 d4 d5 d6 d7 p0 p1 p2 p3 p4 p5 p6
  have hS : Below u3.heap.size u3 u3.drew := (Below.refl _ _).drew
  have r0 : ∀ w', Below u3.heap.size u3 w' → w'.cell? ⟨w.heap.size, 0, none⟩ = some (.int .i64 m.h.id) := fun w' h => (HU.out.1.later h (Nat.le_refl _)).cell 0
  have r5 : ∀ w', Below u3.heap.size u3 w' → w'.cell? ⟨w.heap.size, 5, none⟩ = some (.slice sq.A sq.n sq.c) := fun w' h => (HU.out.1.later h (Nat.le_refl _)).cell 5
  go_wp2_with fail
  refine rg_begin (fun w' => Below u3.heap.size u3 w') 10 (by kernel_rfl) rfl ?_
  refine rg_take 0 (v := ?rv8) rfl (by kernel_rfl) (by kernel_rfl) (by kernel_rfl) (fun _ _ _ h => h) (by rfl) hS (fun w2 hw2 => ?ry8) ?rr8
  case ry8 => ((try dsimp only at hw2); go_simp <;> with_reducible rfl)
  simp only [Act.put, List.setIfInBounds_toArray, List.set_cons_zero, List.set_cons_succ]
  refine rg_take 5 (v := ?rv9) rfl (by kernel_rfl) (by kernel_rfl) (by kernel_rfl) (fun _ _ _ h => h) (by rfl) hS (fun w2 hw2 => ?ry9) ?rr9
  case ry9 => ((try dsimp only at hw2); go_simp <;> with_reducible rfl)
  simp only [Act.put, List.setIfInBounds_toArray, List.set_cons_zero, List.set_cons_succ]
  refine rg_take 3 (v := ?rv10) rfl (by kernel_rfl) (by kernel_rfl) (by kernel_rfl) (fun _ _ _ h => h) (by rfl) hS (fun w2 hw2 => ?ry10) ?rr10
  case ry10 => ((try dsimp only at hw2); go_simp <;> with_reducible rfl)
  simp only [Act.put, List.setIfInBounds_toArray, List.set_cons_zero, List.set_cons_succ]
  refine rg_take 1 (v := ?rv11) rfl (by kernel_rfl) (by kernel_rfl) (by kernel_rfl) (fun _ _ _ h => h) (by rfl) hS (fun w2 hw2 => ?ry11) ?rr11
  case ry11 => ((try dsimp only at hw2); go_simp <;> with_reducible rfl)
  simp only [Act.put, List.setIfInBounds_toArray, List.set_cons_zero, List.set_cons_succ]
  refine rg_take 6 (v := ?rv12) rfl (by kernel_rfl) (by kernel_rfl) (by kernel_rfl) (fun _ _ _ h => h) (by rfl) hS (fun w2 hw2 => ?ry12) ?rr12
  case ry12 => ((try dsimp only at hw2); go_simp <;> with_reducible rfl)
  simp only [Act.put, List.setIfInBounds_toArray, List.set_cons_zero, List.set_cons_succ]
  refine rg_take 7 (v := ?rv13) rfl (by kernel_rfl) (by kernel_rfl) (by kernel_rfl) (fun _ _ _ h => h) (by rfl) hS (fun w2 hw2 => ?ry13) ?rr13
  case ry13 => ((try dsimp only at hw2); go_simp <;> with_reducible rfl)
  simp only [Act.put, List.setIfInBounds_toArray, List.set_cons_zero, List.set_cons_succ]
  clear r0 r5
  refine rg_step 2 rfl (by kernel_rfl) (by rfl) (fun K hK => ?_)
  go_simp
  refine (ref_put (Bs.nil _) m.h.id 2 (by decide) (by omega)).mono ?_
  rintro e y1 ⟨v1, rfl, o1, b1⟩
  have hb1 := hS.size
  have hc1 := b1.size
  replace hS := hS.trans (b1.mono hS.size)
  replace o1 : World.ownsRow y1 _ 5 1 v1 2 _ := o1
  obtain ⟨A1, c1, rfl, B1⟩ := Bs.of_own o1
  clear b1
  refine hK.out _ _ hS ?_
  clear hK K
  try simp only [Act.put, List.setIfInBounds_toArray, List.set_cons_zero, List.set_cons_succ]
  clear o1 hb1 hc1
  refine rg_step 4 rfl (by kernel_rfl) (by rfl) (fun K hK => ?_)
  go_simp
  refine (ref_put B1 (bitsV m.h) 2 (by decide) (by omega)).mono ?_
  rintro e y2 ⟨v2, rfl, o2, b2⟩
  have hb2 := hS.size
  have hc2 := b2.size
  replace hS := hS.trans (b2.mono hS.size)
  replace o2 : World.ownsRow y2 _ 5 1 v2 4 _ := o2
  obtain ⟨A2, c2, rfl, B2⟩ := Bs.of_own o2
  clear b2
  refine hK.out _ _ hS ?_
  clear hK K
  try simp only [Act.put, List.setIfInBounds_toArray, List.set_cons_zero, List.set_cons_succ]
  clear o2 hb2 hc2 B1
  refine rg_step 8 rfl (by kernel_rfl) (by rfl) (fun K hK => ?_)
  go_simp
  refine (ref_put B2 (sq.n : Int) 2 (by decide) (by omega)).mono ?_
  rintro e y3 ⟨v3, rfl, o3, b3⟩
  have hb3 := hS.size
  have hc3 := b3.size
  replace hS := hS.trans (b3.mono hS.size)
  replace o3 : World.ownsRow y3 _ 5 1 v3 6 _ := o3
  obtain ⟨A3, c3, rfl, B3⟩ := Bs.of_own o3
  clear b3
  refine hK.out _ _ hS ?_
  clear hK K
  try simp only [Act.put, List.setIfInBounds_toArray, List.set_cons_zero, List.set_cons_succ]
  clear o3 hb3 hc3 B2
  refine rg_take 9 (v := ?rv14) rfl (by kernel_rfl) (by kernel_rfl) (by kernel_rfl) (fun _ _ _ h => h) (by rfl) hS (fun w2 hw2 => ?ry14) ?rr14
  case ry14 => ((try dsimp only at hw2); go_simp <;> with_reducible rfl)
  simp only [Act.put, List.setIfInBounds_toArray, List.set_cons_zero, List.set_cons_succ]
  refine rg_done (by kernel_rfl) ?_
  have hS7 := hS.drew
  have r6 : ∀ w', Below u3.heap.size u3 w' → w'.cell? ⟨w.heap.size, 6, none⟩ = some (.slice sa.A sa.n sa.c) := fun w' h => (HU.out.1.later h (Nat.le_refl _)).cell 6
  have r7 : ∀ w', Below u3.heap.size u3 w' → w'.cell? ⟨w.heap.size, 7, none⟩ = some (.slice su.A su.n su.c) := fun w' h => (HU.out.1.later h (Nat.le_refl _)).cell 7
  have r8 : ∀ w', Below u3.heap.size u3 w' → w'.cell? ⟨w.heap.size, 8, none⟩ = some (.slice se.A se.n se.c) := fun w' h => (HU.out.1.later h (Nat.le_refl _)).cell 8
  clear hS
  have hS := hS7
  clear hS7
  replace B3 := B3.later (Below.refl _ _).drew (Nat.le_refl _)
  go_wp2_with fail
  refine rg_begin (fun w' => Below u3.heap.size u3 w') 14 (by kernel_rfl) rfl ?_
  refine rg_take 0 (v := ?rv15) rfl (by kernel_rfl) (by kernel_rfl) (by kernel_rfl) (fun _ _ _ h => h) (by rfl) hS (fun w2 hw2 => ?ry15) ?rr15
  case ry15 => ((try dsimp only at hw2); go_simp <;> with_reducible rfl)
  simp only [Act.put, List.setIfInBounds_toArray, List.set_cons_zero, List.set_cons_succ]
  refine rg_take 1 (v := ?rv16) rfl (by kernel_rfl) (by kernel_rfl) (by kernel_rfl) (fun _ _ _ h => h) (by rfl) hS (fun w2 hw2 => ?ry16) ?rr16
  case ry16 => ((try dsimp only at hw2); go_simp <;> with_reducible rfl)
  simp only [Act.put, List.setIfInBounds_toArray, List.set_cons_zero, List.set_cons_succ]
  refine rg_take 5 (v := ?rv17) rfl (by kernel_rfl) (by kernel_rfl) (by kernel_rfl) (fun _ _ _ h => h) (by rfl) hS (fun w2 hw2 => ?ry17) ?rr17
  case ry17 => ((try dsimp only at hw2); go_simp <;> with_reducible rfl)
  simp only [Act.put, List.setIfInBounds_toArray, List.set_cons_zero, List.set_cons_succ]
  refine rg_take 9 (v := ?rv18) rfl (by kernel_rfl) (by kernel_rfl) (by kernel_rfl) (fun _ _ _ h => h) (by rfl) hS (fun w2 hw2 => ?ry18) ?rr18
  case ry18 => ((try dsimp only at hw2); go_simp <;> with_reducible rfl)
  simp only [Act.put, List.setIfInBounds_toArray, List.set_cons_zero, List.set_cons_succ]
  refine rg_take 2 (v := ?rv19) rfl (by kernel_rfl) (by kernel_rfl) (by kernel_rfl) (fun _ _ _ h => h) (by rfl) hS (fun w2 hw2 => ?ry19) ?rr19
  case ry19 => ((try dsimp only at hw2); go_simp <;> with_reducible rfl)
  simp only [Act.put, List.setIfInBounds_toArray, List.set_cons_zero, List.set_cons_succ]
  refine rg_take 6 (v := ?rv20) rfl (by kernel_rfl) (by kernel_rfl) (by kernel_rfl) (fun _ _ _ h => h) (by rfl) hS (fun w2 hw2 => ?ry20) ?rr20
  case ry20 => ((try dsimp only at hw2); go_simp <;> with_reducible rfl)
  simp only [Act.put, List.setIfInBounds_toArray, List.set_cons_zero, List.set_cons_succ]
  refine rg_take 10 (v := ?rv21) rfl (by kernel_rfl) (by kernel_rfl) (by kernel_rfl) (fun _ _ _ h => h) (by rfl) hS (fun w2 hw2 => ?ry21) ?rr21
  case ry21 => ((try dsimp only at hw2); go_simp <;> with_reducible rfl)
  simp only [Act.put, List.setIfInBounds_toArray, List.set_cons_zero, List.set_cons_succ]
  refine rg_take 3 (v := ?rv22) rfl (by kernel_rfl) (by kernel_rfl) (by kernel_rfl) (fun _ _ _ h => h) (by rfl) hS (fun w2 hw2 => ?ry22) ?rr22
  case ry22 => ((try dsimp only at hw2); go_simp <;> with_reducible rfl)
  simp only [Act.put, List.setIfInBounds_toArray, List.set_cons_zero, List.set_cons_succ]
  refine rg_take 7 (v := ?rv23) rfl (by kernel_rfl) (by kernel_rfl) (by kernel_rfl) (fun _ _ _ h => h) (by rfl) hS (fun w2 hw2 => ?ry23) ?rr23
  case ry23 => ((try dsimp only at hw2); go_simp <;> with_reducible rfl)
  simp only [Act.put, List.setIfInBounds_toArray, List.set_cons_zero, List.set_cons_succ]
  refine rg_take 11 (v := ?rv24) rfl (by kernel_rfl) (by kernel_rfl) (by kernel_rfl) (fun _ _ _ h => h) (by rfl) hS (fun w2 hw2 => ?ry24) ?rr24
  case ry24 => ((try dsimp only at hw2); go_simp <;> with_reducible rfl)
  simp only [Act.put, List.setIfInBounds_toArray, List.set_cons_zero, List.set_cons_succ]
  clear r6 r7 r8
  refine rg_step 4 rfl (by kernel_rfl) (by rfl) (fun K hK => ?_)
  go_simp
  refine (ref_put B3 (sa.n : Int) 2 (by decide) (by omega)).mono ?_
  rintro e y4 ⟨v4, rfl, o4, b4⟩
  have hb4 := hS.size
  have hc4 := b4.size
  replace hS := hS.trans (b4.mono hS.size)
  replace o4 : World.ownsRow y4 _ 5 1 v4 8 _ := o4
  obtain ⟨A4, c4, rfl, B4⟩ := Bs.of_own o4
  clear b4
  refine hK.out _ _ hS ?_
  clear hK K
  try simp only [Act.put, List.setIfInBounds_toArray, List.set_cons_zero, List.set_cons_succ]
  clear o4 hb4 hc4 B3
  refine rg_step 8 rfl (by kernel_rfl) (by rfl) (fun K hK => ?_)
  go_simp
  refine (ref_put B4 (su.n : Int) 2 (by decide) (by omega)).mono ?_
  rintro e y5 ⟨v5, rfl, o5, b5⟩
  have hb5 := hS.size
  have hc5 := b5.size
  replace hS := hS.trans (b5.mono hS.size)
  replace o5 : World.ownsRow y5 _ 5 1 v5 10 _ := o5
  obtain ⟨A5, c5, rfl, B5⟩ := Bs.of_own o5
  clear b5
  refine hK.out _ _ hS ?_
  clear hK K
  try simp only [Act.put, List.setIfInBounds_toArray, List.set_cons_zero, List.set_cons_succ]
  clear o5 hb5 hc5 B4
  refine rg_step 12 rfl (by kernel_rfl) (by rfl) (fun K hK => ?_)
  go_simp
  refine (ref_put B5 (se.n : Int) 2 (by decide) (by omega)).mono ?_
  rintro e y6 ⟨v6, rfl, o6, b6⟩
  have hb6 := hS.size
  have hc6 := b6.size
  replace hS := hS.trans (b6.mono hS.size)
  replace o6 : World.ownsRow y6 _ 5 1 v6 12 _ := o6
  obtain ⟨A6, c6, rfl, B6⟩ := Bs.of_own o6
  clear b6
  refine hK.out _ _ hS ?_
  clear hK K
  try simp only [Act.put, List.setIfInBounds_toArray, List.set_cons_zero, List.set_cons_succ]
  clear B5
  refine rg_take 13 (v := ?rv25) rfl (by kernel_rfl) (by kernel_rfl) (by kernel_rfl) (fun _ _ _ h => h) (by rfl) hS (fun w2 hw2 => ?ry25) ?rr25
  case ry25 => ((try dsimp only at hw2); go_simp <;> with_reducible rfl)
  simp only [Act.put, List.setIfInBounds_toArray, List.set_cons_zero, List.set_cons_succ]
  refine rg_done (by kernel_rfl) ?_
  have hl12 : ([] ++ putn m.h.id 2 ++ putn (bitsV m.h) 2 ++ putn (sq.n : Nat) 2 ++ putn (sa.n : Nat) 2 ++ putn (su.n : Nat) 2 ++ putn (se.n : Nat) 2 : List UInt8) = headL m := by
    unfold headL
    rw [hla, hlu, hle, hlq]
    simp only [List.nil_append, List.append_assoc]
  rw [hl12] at o6
  have hlen12 : (headL m).length = 12 := by simp [headL, putn_length]
  have HO6 := Lib.hid o6
  have HB6 := Lib.hid (And.intro hS (And.intro hb6 hc6))
  have HL12 := Lib.hid hlen12
  clear o6 hS hb6 hc6 hl12 hlen12 B6
  obtain ⟨yb, hyb⟩ : ∃ y, y6 = y := ⟨_, rfl⟩
  rw [hyb] at HO6 HB6 ⊢
  clear hyb
  obtain ⟨bb, hbb⟩ : ∃ b, y5.heap.size = b := ⟨_, rfl⟩
  rw [hbb] at HO6 HB6
  clear hbb
  have c5 : yb.cell? ⟨w.heap.size, 5, none⟩ = some (.slice sq.A sq.n sq.c) := (HU.out.1.later HB6.out.1 (Nat.le_refl _)).cell 5
  go_wp2_with fail
  clear c5
  go_loopw [6, 7] (fun v i wr => ∃ (j : Nat) (B : List UInt8), j ≤ sq.n ∧ i = .int .i64 j ∧ B = headL m ++ qsB (m.qs.take j) ∧ B.length ≤ 12 + 20000 * j ∧ (∀ q ∈ m.qs.take j, rightQ q) ∧ wr.ownsRow bb 5 1 v B.length (bv B) ∧ Below u3.heap.size u3 wr ∧ bb ≤ wr.heap.size) (fun _ i _ => sq.n - (intOf i).toNat)
  case atStart => exact ⟨0, headL m, Nat.zero_le _, rfl, by simp [qsB], by rw [HL12.out]; omega, (fun q h => by simp at h), by rw [HL12.out]; exact HO6.out, HB6.out.1, HB6.out.2.2⟩
  case round =>
    obtain ⟨j, B, hj, rfl, hB, hBl, hri, ho, hbe, hbw⟩ := hrel
    have c5 : wr.cell? ⟨w.heap.size, 5, none⟩ = some (.slice sq.A sq.n sq.c) := (HU.out.1.later hbe (Nat.le_refl _)).cell 5
    have HO := Lib.hid (And.intro ho (And.intro hbe (And.intro hB hri)))
    have hbs := hbe.size
    clear ho hbe hB hri
    by_cases hlt : j < sq.n
    · obtain ⟨x, hx⟩ : ∃ x, m.qs[j]? = some x := ⟨_, List.getElem?_eq_getElem (by omega)⟩
      obtain ⟨b, off, hAq, hrg, _⟩ := (HU.out.2.2.2.1.qs.later HO.out.2.1 (Nat.le_refl _)).here j x hx
      rw [hAq] at c5
      have HRG := Lib.hid hrg
      have hxm := List.mem_of_getElem? hx
      have hx10 := H10.out.qs x hxm
      have HX := Lib.hid (And.intro hx hxm)
      clear hrg hx hxm hAq
      have g0 : (0 : Int) ≤ (j : Int) := by omega
      have g1 : (j : Int) < (sq.n : Int) := by omega
      by_cases hrx : rightQ x
      · skip
        --<< qok
        have KQ := Lib.hid (fun w1 => (by have h := ref_writeQ x hx10 w1; unfold writeQv writeQe at h; rw [if_pos hrx, if_pos hrx] at h; exact h : Calls Tryz.prog 37 #[.agg (qsv x)] w1 (RefB (writeQB x) fl0 w1)))
        have hwl := wQ10 hx10
        have HRX := Lib.hid hrx
        clear hrx
        go_wp2_with (refine wpList_load_mid rfl 51 (.tmp 113) rfl b (off + j * 3) rfl (qsv x).toList _ HRG.out Tryz.underlying51 rfl (by simpa using qs_size x) ?_; rw [Array.toArray_toList])
        refine (KQ.out _).mono ?_
        rintro e w7 ⟨A7, n7, c7, rfl, B7, _, b7⟩
        have hn7 := B7.len
        have H7 := Lib.hid (And.intro (own_kept HO.out.1 b7) (And.intro B7 (And.intro (HO.out.2.1.trans (b7.mono HO.out.2.1.size)) (Nat.le_trans hbw b7.size))))
        clear b7 B7
        go_wp2_with (first
          | (refine wpList_store_fl rfl (.tmp 9) (.tmp 117) rfl 0 0 false rfl rfl H8.out.2 ?_; intro w9 a9 o9 z9 g9; have b9 := g9 _ _ (Nat.le_refl _) H8.out.1; have H9 := Lib.hid (And.intro (own_kept H7.out.1 b9) (And.intro (H7.out.2.1.later b9 (Nat.le_refl _)) (And.intro (H7.out.2.2.1.trans (b9.mono H7.out.2.2.1.size)) (Nat.le_trans H7.out.2.2.2 b9.size)))); have e0 := fl_head a9; clear a9 o9 z9 g9 b9)
          | (refine wpList_alloc_fl rfl rfl ?_; intro w8 a8 b8 z8; have H8 := Lib.hid (And.intro b8 a8); clear a8 b8 z8)
          | (at_builtin; refine wpList_append_bs rfl (.tmp 122) (.tmp 123) 22 rfl bb 5 info5 Tryz.underlying22 _ B.length _ rfl H9.out.1 A7 n7 c7 (writeQB x) rfl H9.out.2.1 (by omega) H9.out.2.2.2 ?_; intro v10 w10 o10 g10 _ _; have H10' := Lib.hid (And.intro o10 (And.intro (H9.out.2.2.1.grown g10 H9.out.2.2.1.size (fun q hq => by have h1 := (World.ownsRow.lt H9.out.1 q hq).1; have h2 := HB6.out.2.1; omega)) (Nat.le_trans H9.out.2.2.2 g10.size))); clear o10 g10))
        go_roundw
        case rel =>
          have hBn : B ++ writeQB x = headL m ++ qsB (m.qs.take (j + 1)) := by rw [HO.out.2.2.1, qsB_take HX.out.1, List.append_assoc]
          refine ⟨j + 1, B ++ writeQB x, hlt, by go_num, hBn, by rw [List.length_append]; omega, (fun q hq => ?_), ?_, H10'.out.2.1, H10'.out.2.2⟩
          · rcases mem_take_succ HX.out.1 hq with h | h
            · exact HO.out.2.2.2 q h
            · rw [h]; exact HRX.out
          · rw [List.length_append, hn7]
            have h := H10'.out.1
            first | exact h | rwa [← bv_append] at h
        case measure => simp [intOf]; omega
        -->>
      · skip
        --<< qno
        have KQ := Lib.hid (fun w1 => (by have h := ref_writeQ x hx10 w1; unfold writeQv writeQe at h; rw [if_neg hrx, if_neg hrx] at h; exact h : Calls Tryz.prog 37 #[.agg (qsv x)] w1 (RefB [] ⟨1, 0, false⟩ w1)))
        have hv := wr_q HX.out.2 hrx
        rw [HV.out.1, HV.out.2] at hv
        have HVV := Lib.hid hv
        clear hrx hv
        go_wp2_with (refine wpList_load_mid rfl 51 (.tmp 113) rfl b (off + j * 3) rfl (qsv x).toList _ HRG.out Tryz.underlying51 rfl (by simpa using qs_size x) ?_; rw [Array.toArray_toList])
        refine (KQ.out _).mono ?_
        rintro e w7 ⟨A7, n7, c7, rfl, B7, _, b7⟩
        have H7 := Lib.hid (HO.out.2.1.trans (b7.mono HO.out.2.1.size))
        clear b7 B7
        go_wp2_with (first
          | (refine wpList_store_fl rfl (.tmp 9) (.tmp 117) rfl 1 0 false rfl rfl H8.out.2 ?_; intro w9 a9 o9 z9 g9; have b9 := g9 _ _ (Nat.le_refl _) H8.out.1; have H9 := Lib.hid (And.intro a9 (H7.out.trans (b9.mono H7.out.size))); have e0 := fl_head a9; clear a9 o9 z9 g9 b9)
          | (refine wpList_alloc_fl rfl rfl ?_; intro w8 a8 b8 z8; have H8 := Lib.hid (And.intro b8 a8); clear a8 b8 z8))
        clear e0
        have h7s := H7.out.size
        have hS : FlBox w9.drew w7.heap.size 1 0 false := H9.out.1
        refine rg_begin (fun w' => FlBox w' w7.heap.size 1 0 false) 3 (by kernel_rfl) rfl ?_
        refine rg_load 0 rfl (by kernel_rfl) (by kernel_rfl) (by kernel_rfl) (w7.heap.size) (0) ((flv 1 0 false)) (fun _ _ _ h => h) (by rfl) 36 (.tmp 9) rfl rfl hS (fun w2 h2 => (FlBox.range h2)) Tryz.underlying36 rfl (fl_size _ _ _) ?_
        simp only [Act.put, List.setIfInBounds_toArray, List.set_cons_zero, List.set_cons_succ]
        refine rg_take 1 (v := ?rv26) rfl (by kernel_rfl) (by kernel_rfl) (by kernel_rfl) (fun _ _ _ h => h) (by rfl) hS (fun w2 hw2 => ?ry26) ?rr26
        case ry26 => ((try dsimp only at hw2); go_simp <;> with_reducible rfl)
        simp only [Act.put, List.setIfInBounds_toArray, List.set_cons_zero, List.set_cons_succ]
        refine rg_step 2 rfl (by kernel_rfl) (by rfl) (fun K hK => ?_)
        refine wp_store_flF (.tmp 3) (.tmp 121) rfl 1 0 false rfl rfl ((HU.out.2.1.later (H9.out.2).drew (Nat.le_refl _))) ?_
        intro x5 a5 o5 g5'
        replace hS : FlBox x5 w7.heap.size 1 0 false := FlBox.same hS (o5 _ (by have h3 := HLU.out; omega))
        have HX5 := Lib.hid (And.intro a5 (g5' w.heap.size w (Nat.le_of_lt hww) (Below.drew (HU.out.2.2.2.2.trans (H9.out.2.mono HU.out.2.2.2.2.size)))))
        clear a5 o5 g5'
        refine hK.out _ _ hS ?_
        clear hK K
        simp only [Act.put]
        refine rg_done (by kernel_rfl) ?_
        go_wp2_with fail
        refine bodyPost_ret (results_tmp_fl rfl _ rfl HX5.out.1) rfl ?_
        rw [HVV.out.1, HVV.out.2]
        exact ⟨none, 0, 0, rfl, Bs.nil _, HX5.out.2⟩
        -->>
    · obtain rfl : j = sq.n := by omega
      have hfull : m.qs.take sq.n = m.qs := List.take_of_length_le (by omega)
      rw [hfull] at HO
      clear hfull
      go_wp2_with fail
      obtain ⟨B0, hB0⟩ : ∃ x, B = x := ⟨_, rfl⟩
      go_loopw [6, 10] (fun v i wr => ∃ (t : Nat) (B : List UInt8), t ≤ n3 ∧ i = .int .i64 t ∧ B = headL m ++ (qsB m.qs ++ rsB ((recs m).take t)) ∧ B.length ≤ 2000012 + 40000 * t ∧ (∀ r ∈ (recs m).take t, rightR r) ∧ wr.ownsRow bb 5 1 v B.length (bv B) ∧ Below u3.heap.size u3 wr ∧ bb ≤ wr.heap.size) (fun _ i _ => n3 - (intOf i).toNat)
      case atStart => exact ⟨0, B, Nat.zero_le _, rfl, by rw [HO.out.2.2.1]; simp [rsB], by omega, (fun q h => by simp at h), HO.out.1, HO.out.2.1, hbw⟩
      clear hB0
      case round =>
        obtain ⟨t, B, ht, rfl, hB, hBl2, hri, ho, hbe, hbw2⟩ := hrel
        have HP := Lib.hid (And.intro ho (And.intro hbe (And.intro hB hri)))
        have hbs2 := hbe.size
        clear ho hbe hB hri
        by_cases htl : t < n3
        · obtain ⟨x, hx⟩ : ∃ x, (recs m)[t]? = some x := ⟨_, List.getElem?_eq_getElem (by rw [HN3.out]; exact htl)⟩
          obtain ⟨b, off, BD, kd, md, hAr, hrg, hd, _⟩ := (HU.out.2.2.1.later HP.out.2.1 (Nat.le_refl _)).here t x hx
          have hxk := HU.out.2.2.1.ok x (List.mem_of_getElem? hx)
          subst hAr
          have HRG := Lib.hid hrg
          have HD := Lib.hid (And.intro hd hxk)
          have hxm := List.mem_of_getElem? hx
          have hx10 := H10.out.rs x hxm
          have HX := Lib.hid (And.intro hx hxm)
          clear hrg hx hxm hd hxk
          have g0 : (0 : Int) ≤ (t : Int) := by omega
          have g1 : (t : Int) < (n3 : Int) := by omega
          by_cases hrx : rightR x
          · skip
            --<< rok
            have KQ := Lib.hid (by have h := ref_writeR HD.out.2 HD.out.1 hx10.1.1 hx10.1.2 hx10.2.1 hx10.2.2; unfold writeRv writeRe at h; rw [if_pos hrx, if_pos hrx] at h; exact h : Calls Tryz.prog 38 #[.agg (rcv x BD kd md)] wr (RefB (writeRB x) fl0 wr))
            have hwl := wR10 hx10.1.1 hx10.1.2 hrx.2.2.2.1 HD.out.2
            have HRX := Lib.hid hrx
            clear hrx hx10
            go_wp2_with (refine wpList_load_mid rfl 57 (.tmp 134) rfl b (off + t * 23) rfl (rcv x BD kd md).toList _ HRG.out Tryz.underlying57 rfl (by simpa using rc_size HD.out.2 BD kd md) ?_; rw [Array.toArray_toList])
            refine KQ.out.mono ?_
            rintro e w7 ⟨A7, n7, c7, rfl, B7, _, b7⟩
            have hn7 := B7.len
            have H7 := Lib.hid (And.intro (own_kept HP.out.1 b7) (And.intro B7 (And.intro (HP.out.2.1.trans (b7.mono HP.out.2.1.size)) (Nat.le_trans hbw2 b7.size))))
            clear b7 B7
            go_wp2_with (first
              | (refine wpList_store_fl rfl (.tmp 12) (.tmp 138) rfl 0 0 false rfl rfl H8.out.2 ?_; intro w9 a9 o9 z9 g9; have b9 := g9 _ _ (Nat.le_refl _) H8.out.1; have H9 := Lib.hid (And.intro (own_kept H7.out.1 b9) (And.intro (H7.out.2.1.later b9 (Nat.le_refl _)) (And.intro (H7.out.2.2.1.trans (b9.mono H7.out.2.2.1.size)) (Nat.le_trans H7.out.2.2.2 b9.size)))); have e0 := fl_head a9; clear a9 o9 z9 g9 b9)
              | (refine wpList_alloc_fl rfl rfl ?_; intro w8 a8 b8 z8; have H8 := Lib.hid (And.intro b8 a8); clear a8 b8 z8)
              | (at_builtin; refine wpList_append_bs rfl (.tmp 143) (.tmp 144) 22 rfl bb 5 info5 Tryz.underlying22 _ B.length _ rfl H9.out.1 A7 n7 c7 (writeRB x) rfl H9.out.2.1 (by omega) H9.out.2.2.2 ?_; intro v10 w10 o10 g10 _ _; have H10' := Lib.hid (And.intro o10 (And.intro (H9.out.2.2.1.grown g10 H9.out.2.2.1.size (fun q hq => by have h1 := (World.ownsRow.lt H9.out.1 q hq).1; have h2 := HB6.out.2.1; omega)) (Nat.le_trans H9.out.2.2.2 g10.size))); clear o10 g10))
            go_roundw
            case rel =>
              have hBn : B ++ writeRB x = headL m ++ (qsB m.qs ++ rsB ((recs m).take (t + 1))) := by rw [HP.out.2.2.1, rsB_take HX.out.1]; simp only [List.append_assoc]
              refine ⟨t + 1, B ++ writeRB x, htl, by go_num, hBn, by rw [List.length_append]; omega, (fun q hq => ?_), ?_, H10'.out.2.1, H10'.out.2.2⟩
              · rcases mem_take_succ HX.out.1 hq with h | h
                · exact HP.out.2.2.2 q h
                · rw [h]; exact HRX.out
              · rw [List.length_append, hn7]
                have h := H10'.out.1
                first | exact h | rwa [← bv_append] at h
            case measure => simp [intOf]; omega
            -->>
          · skip
            --<< rno
            have KQ := Lib.hid (by have h := ref_writeR HD.out.2 HD.out.1 hx10.1.1 hx10.1.2 hx10.2.1 hx10.2.2; unfold writeRv writeRe at h; rw [if_neg hrx, if_neg hrx] at h; exact h : Calls Tryz.prog 38 #[.agg (rcv x BD kd md)] wr (RefB [] ⟨1, 0, false⟩ wr))
            have hv := wr_r HX.out.2 hrx
            rw [HV.out.1, HV.out.2] at hv
            have HVV := Lib.hid hv
            clear hrx hv hx10
            go_wp2_with (refine wpList_load_mid rfl 57 (.tmp 134) rfl b (off + t * 23) rfl (rcv x BD kd md).toList _ HRG.out Tryz.underlying57 rfl (by simpa using rc_size HD.out.2 BD kd md) ?_; rw [Array.toArray_toList])
            refine KQ.out.mono ?_
            rintro e w7 ⟨A7, n7, c7, rfl, B7, _, b7⟩
            have H7 := Lib.hid (HP.out.2.1.trans (b7.mono HP.out.2.1.size))
            clear b7 B7
            go_wp2_with (first
              | (refine wpList_store_fl rfl (.tmp 12) (.tmp 138) rfl 1 0 false rfl rfl H8.out.2 ?_; intro w9 a9 o9 z9 g9; have b9 := g9 _ _ (Nat.le_refl _) H8.out.1; have H9 := Lib.hid (And.intro a9 (H7.out.trans (b9.mono H7.out.size))); have e0 := fl_head a9; clear a9 o9 z9 g9 b9)
              | (refine wpList_alloc_fl rfl rfl ?_; intro w8 a8 b8 z8; have H8 := Lib.hid (And.intro b8 a8); clear a8 b8 z8))
            clear e0
            have h7s := H7.out.size
            have hS : FlBox w9.drew w7.heap.size 1 0 false := H9.out.1
            refine rg_begin (fun w' => FlBox w' w7.heap.size 1 0 false) 3 (by kernel_rfl) rfl ?_
            refine rg_load 0 rfl (by kernel_rfl) (by kernel_rfl) (by kernel_rfl) (w7.heap.size) (0) ((flv 1 0 false)) (fun _ _ _ h => h) (by rfl) 36 (.tmp 12) rfl rfl hS (fun w2 h2 => (FlBox.range h2)) Tryz.underlying36 rfl (fl_size _ _ _) ?_
            simp only [Act.put, List.setIfInBounds_toArray, List.set_cons_zero, List.set_cons_succ]
            refine rg_take 1 (v := ?rv27) rfl (by kernel_rfl) (by kernel_rfl) (by kernel_rfl) (fun _ _ _ h => h) (by rfl) hS (fun w2 hw2 => ?ry27) ?rr27
            case ry27 => ((try dsimp only at hw2); go_simp <;> with_reducible rfl)
            simp only [Act.put, List.setIfInBounds_toArray, List.set_cons_zero, List.set_cons_succ]
            refine rg_step 2 rfl (by kernel_rfl) (by rfl) (fun K hK => ?_)
            refine wp_store_flF (.tmp 3) (.tmp 142) rfl 1 0 false rfl rfl ((HU.out.2.1.later (H9.out.2).drew (Nat.le_refl _))) ?_
            intro x5 a5 o5 g5'
            replace hS : FlBox x5 w7.heap.size 1 0 false := FlBox.same hS (o5 _ (by have h3 := HLU.out; omega))
            have HX5 := Lib.hid (And.intro a5 (g5' w.heap.size w (Nat.le_of_lt hww) (Below.drew (HU.out.2.2.2.2.trans (H9.out.2.mono HU.out.2.2.2.2.size)))))
            clear a5 o5 g5'
            refine hK.out _ _ hS ?_
            clear hK K
            simp only [Act.put]
            refine rg_done (by kernel_rfl) ?_
            go_wp2_with fail
            refine bodyPost_ret (results_tmp_fl rfl _ rfl HX5.out.1) rfl ?_
            rw [HVV.out.1, HVV.out.2]
            exact ⟨none, 0, 0, rfl, Bs.nil _, HX5.out.2⟩
            -->>
        · obtain rfl : t = n3 := by omega
          have hfull : (recs m).take t = recs m := List.take_of_length_le (by rw [HN3.out]; exact Nat.le_refl _)
          rw [hfull] at HP
          clear hfull
          have hB : B = msgB m := HP.out.2.2.1
          subst hB
          have hrm : rightM m := ⟨⟨HRH.out.1, HRH.out.2⟩, HO.out.2.2.2, HP.out.2.2.2⟩
          obtain ⟨AB, cB, rfl, hBs⟩ := Bs.of_own HP.out.1
          by_cases h4 : 4000 < (msgB m).length
          · skip
            --<< big
            have hv : writeMv m = [] ∧ writeMe m = ⟨4, 0, false⟩ := by
              unfold writeMv writeMe
              rw [if_neg (fun h => absurd h.2 (by omega)), if_pos hrm, if_neg (by omega)]
              exact ⟨rfl, rfl⟩
            rw [HV.out.1, HV.out.2] at hv
            have HVV := Lib.hid hv
            have hd4 : decide ((4000 : Int) < ((msgB m).length : Int)) = true := decide_eq_true (by omega)
            clear hv hrm hBs
            go_wp2_with fail
            refine (help_bare 4 _).mono ?_
            rintro e w7 ⟨rfl, b7⟩
            have H7 := Lib.hid (HP.out.2.1.trans (b7.mono HP.out.2.1.size))
            clear b7
            go_wp2_with (refine wpList_store_fl rfl (.tmp 3) (.tmp 149) rfl 4 0 false rfl rfl (HU.out.2.1.later H7.out (Nat.le_refl _)) ?_; intro w8 a8 o8 z8 g8; have H8 := Lib.hid (And.intro a8 (g8 _ _ (Nat.le_of_lt hww) (HU.out.2.2.2.2.trans (H7.out.mono HU.out.2.2.2.2.size)))); clear a8 o8 z8 g8)
            refine bodyPost_ret (results_tmp_fl rfl _ rfl H8.out.1) rfl ?_
            rw [HVV.out.1, HVV.out.2]
            exact ⟨none, 0, 0, rfl, Bs.nil _, H8.out.2⟩
            -->>
          · skip
            --<< fits
            have hv : writeMv m = msgB m ∧ writeMe m = fl0 := by
              unfold writeMv writeMe
              rw [if_pos ⟨hrm, by omega⟩, if_pos hrm, if_pos (by omega)]
              exact ⟨rfl, rfl⟩
            rw [HV.out.1, HV.out.2] at hv
            have HVV := Lib.hid hv
            have hd4 : decide ((4000 : Int) < ((msgB m).length : Int)) = false := decide_eq_false (by omega)
            have HBS := Lib.hid hBs
            clear hv hrm hBs
            go_wp2_with (refine wpList_store_fl rfl (.tmp 3) (.tmp 151) rfl 0 0 false rfl rfl (HU.out.2.1.later HP.out.2.1 (Nat.le_refl _)) ?_; intro w8 a8 o8 z8 g8; have H8 := Lib.hid (And.intro a8 (And.intro (g8 _ _ (Nat.le_of_lt hww) (HU.out.2.2.2.2.trans (HP.out.2.1.mono HU.out.2.2.2.2.size))) (Bs.own_later (own_moved HP.out.1 fun b hb => o8 b (by have h1 := (World.ownsRow.lt HP.out.1 b hb).1; have h2 := HB6.out.2.1; have h3 := HLU.out; omega)) fun _ _ => rfl))); clear a8 o8 z8 g8)
            refine bodyPost_ret (results_tmp_fl rfl _ rfl H8.out.1) rfl ?_
            rw [HVV.out.1, HVV.out.2]
            exact ⟨AB, _, cB, rfl, H8.out.2.2, H8.out.2.1⟩
            -->>
end Go.Proofs.YtbikifaadpijnaaGreatDoor

namespace Go.Proofs.YtbikifaadpijnaaGreatDoor
open Go.RowKit
set_option maxRecDepth 100000

theorem readR_in {l : List UInt8} {n : Nat} {at_ : Int} (h : (readRv l n at_).f.code = 0) : (readRv l n at_).next ≤ n := by
  unfold readRv readRq at h ⊢
  by_cases h1 : (readQv l n at_).f.code ≠ 0
  · rw [if_pos h1] at h; exact absurd h h1
  rw [if_neg h1] at h ⊢
  by_cases h2 : n < (readQv l n at_).next + 4
  · rw [if_pos h2] at h; exact absurd h (by simp [Rr.bad])
  rw [if_neg h2] at h ⊢
  by_cases h3 : n < (readQv l n at_).next + 6 + (if n < (readQv l n at_).next + 6 then 0 else num2 l ((readQv l n at_).next + 4))
  · rw [if_pos h3] at h; exact absurd h (by simp [Rr.bad])
  rw [if_neg h3] at h ⊢
  by_cases h4 : (dataV l n ((readQv l n at_).q.asRc (num4 l (readQv l n at_).next)) ((readQv l n at_).next + 4) (num2 l ((readQv l n at_).next + 4))).2.code ≠ 0
  · rw [if_pos h4] at h; exact absurd h h4
  rw [if_neg h4]
  show (readQv l n at_).next + 6 + num2 l ((readQv l n at_).next + 4) ≤ n
  by_cases h5 : n < (readQv l n at_).next + 6
  · rw [if_pos h5] at h3; omega
  · rw [if_neg h5] at h3; omega
theorem listV_in {α : Type} {rd : Nat → α × Nat × Fl} {n : Nat} (hrd : ∀ p, (rd p).2.2.code = 0 → (rd p).2.1 ≤ n) : ∀ (k p : Nat), p ≤ n → (listV rd k p).f.code = 0 → (listV rd k p).next ≤ n ∧ (listV rd k p).f = fl0
  | 0, p, hp, _ => ⟨hp, rfl⟩
  | k + 1, p, hp, h => by
    rw [listV] at h ⊢
    by_cases h1 : (rd p).2.2.code ≠ 0
    · rw [if_pos h1] at h; exact absurd h h1
    rw [if_neg h1] at h ⊢
    by_cases h2 : (listV rd k (rd p).2.1).f.code ≠ 0
    · rw [if_pos h2] at h; exact absurd h h2
    rw [if_neg h2]
    exact ⟨(listV_in hrd k _ (hrd p (Decidable.not_not.1 h1)) (Decidable.not_not.1 h2)).1, rfl⟩
def n4v (h : Nat → Int) : Array Value := #[.int .i64 (h 0), .int .i64 (h 1), .int .i64 (h 2), .int .i64 (h 3)]
def N4Box (w : World) (g : Nat) (h : Nat → Int) : Prop := w.heap[g]? = some (.cells (n4v h) 71 (0, 0))
theorem N4Box.lt {w : World} {g : Nat} {h : Nat → Int} (H : N4Box w g h) : g < w.heap.size := (Array.getElem?_eq_some_iff.1 H).1
theorem N4Box.later {w w' : World} {g : Nat} {h : Nat → Int} {B : Nat} (H : N4Box w g h) (hb : Below B w w') (hB : w.heap.size ≤ B) : N4Box w' g h := (hb.block g (by have := H.lt; omega)).trans H
theorem N4Box.same {w w' : World} {g : Nat} {h : Nat → Int} (H : N4Box w g h) (hh : w'.heap[g]? = w.heap[g]?) : N4Box w' g h := hh.trans H
theorem N4Box.cell {w : World} {g : Nat} {h : Nat → Int} (H : N4Box w g h) (j : Nat) : w.cell? ⟨g, j, none⟩ = (n4v h)[j]? := cell_of_row w g j _ _ _ H
theorem n4_size (h : Nat → Int) : (Tryz.prog.info? 71).map (·.size) = some (n4v h).size := by
  show _ = some 4
  kernel_rfl
theorem n4_one (h : Nat → Int) : (n4v h).all (·.oneCell') = true := by simp [n4v, Value.oneCell']
section
variable {ops : Array Oper} {rest : List Oper} {o : Oper} {a : Act} {w : World} {Q : Exit → Act → World → Prop}
theorem wpList_alloc_n4 (hgd : o.guard = none) (ho : o.op = .alloc 71)
    (h : ∀ w', N4Box w' w.heap.size (fun _ => 0) → Below w.heap.size w w' → w'.heap.size = w.heap.size + 1 → wpList Tryz.prog ops Q rest (a.put o.dst (.pointer (some ⟨w.heap.size, 0, none⟩))) w') : wpList Tryz.prog ops Q (o :: rest) a w :=
  wpList_plain hgd fun _ hK => by
    have h1 := hK _ _ (h (w.alloc (.cells (n4v (fun _ => 0)) 71)) (heap_alloc_last w _) ((Below.refl _ w).alloc (Nat.le_refl _) _) (by simp))
    obtain ⟨dst, op, ty, pos, after, guard⟩ := o
    simp only at ho
    subst ho
    unfold n4v at h1
    go_simp
    exact h1
theorem wpList_store_n4 (hgd : o.guard = none) (x y : Operand) (ho : o.op = .store 71 x y) {g : Nat} (h' : Nat → Int) {h0 : Nat → Int}
    (hx : a.eval x = .pointer (some ⟨g, 0, none⟩)) (hy : a.eval y = .agg (n4v h')) (hA : N4Box w g h0)
    (h : ∀ w', N4Box w' g h' → (∀ k, k ≠ g → w'.heap[k]? = w.heap[k]?) → w'.heap.size = w.heap.size → (∀ B w0, B ≤ g → Below B w0 w → Below B w0 w') → wpList Tryz.prog ops Q rest (a.put o.dst undef) w') : wpList Tryz.prog ops Q (o :: rest) a w :=
  wpList_store_row hgd 71 x y ho g (n4v h') hx hy 71 _ hA (n4_size h') rfl (n4_one h')
    (h _ (setRow_heap w g _ _ _ _ hA) (fun k hk => setRow_other w g k _ hk) (size_setRow w g _) (fun _ _ hB hb => below_setRow hb hB _))
end
theorem wp_build_msZ {o : Oper} {a : Act} {w : World} {K : Act → World → Prop} {Q : Exit → Act → World → Prop} (X : Value) (hX : Value.agg (msv .zero .zero .zero .zero .zero) = X) (ho : o.op = .build 26 #[])
    (h : K (a.put o.dst X) w) : o.wp Tryz.prog a w K Q := by
  have hrun : (Instr.build 26 #[]).run Tryz.prog w = .ok (.agg (msv .zero .zero .zero .zero .zero)) w := by kernel_rfl
  subst hX
  unfold Oper.wp execOp
  simp only [ho, Sem.run_bind, Sem.run_pure, Result.andThen_ok, List.map_toArray, List.map_nil, hrun]
  exact h
/-- What is there while a message is told: the two boxes of the answer, the message's own, the four numbers, and the error's. -/
structure Pz (w0 : World) (g3 g5 g6 g12 wb : Nat) (H : Mh) (h : Nat → Int) (s : Sl) (xs : List Qs) (sa su se : Sl) (c a : Int) (p : Bool) (w : World) : Prop where
  lt : w0.heap.size < g3 ∧ g3 < g5 ∧ g5 < g6 ∧ g6 < wb ∧ wb ≤ g12
  qb : ∀ b, (Value.slice s.A s.n s.c).ownBlock = some b → b < g12
  ms2 : MsBox w w0.heap.size .zero .zero .zero .zero .zero
  fl3 : FlBox w g3 0 0 false
  ms5 : MsBox w g5 H s sa su se
  n4 : N4Box w g6 h
  fl12 : FlBox w g12 c a p
  qo : QsO w wb (.slice s.A s.n s.c) xs
  be : Below w0.heap.size w0 w
section
variable {w0 w w' : World} {g3 g5 g6 g12 wb : Nat} {H : Mh} {h : Nat → Int} {s : Sl} {xs : List Qs} {sa su se : Sl} {c a : Int} {p : Bool}
theorem Pz.later (P : Pz w0 g3 g5 g6 g12 wb H h s xs sa su se c a p w) (hb : Below w.heap.size w w') : Pz w0 g3 g5 g6 g12 wb H h s xs sa su se c a p w' :=
  ⟨P.lt, P.qb, P.ms2.later hb (Nat.le_refl _), P.fl3.later hb (Nat.le_refl _), P.ms5.later hb (Nat.le_refl _), P.n4.later hb (Nat.le_refl _), P.fl12.later hb (Nat.le_refl _), P.qo.later hb, P.be.trans (hb.mono P.be.size)⟩
theorem Pz.put5 (P : Pz w0 g3 g5 g6 g12 wb H h s xs sa su se c a p w) {sa' su' se' : Sl} (h5 : MsBox w' g5 H s sa' su' se') (ho : ∀ k, k ≠ g5 → w'.heap[k]? = w.heap[k]?) (hg : ∀ B w0, B ≤ g5 → Below B w0 w → Below B w0 w') : Pz w0 g3 g5 g6 g12 wb H h s xs sa' su' se' c a p w' := by
  obtain ⟨l1, l2, l3, l4, l5⟩ := P.lt
  exact ⟨P.lt, P.qb, P.ms2.same (ho _ (by omega)), P.fl3.same (ho _ (by omega)), h5, P.n4.same (ho _ (by omega)), P.fl12.same (ho _ (by omega)), own_moved P.qo (fun b hb => ho b (by have := (World.ownsRow.lt P.qo b hb).1; omega)), hg _ _ (by omega) P.be⟩
theorem Pz.put12 (P : Pz w0 g3 g5 g6 g12 wb H h s xs sa su se c a p w) {c' a' : Int} {p' : Bool} (h12 : FlBox w' g12 c' a' p') (ho : ∀ k, k ≠ g12 → w'.heap[k]? = w.heap[k]?) (hg : ∀ B w0, B ≤ g12 → Below B w0 w → Below B w0 w') : Pz w0 g3 g5 g6 g12 wb H h s xs sa su se c' a' p' w' := by
  obtain ⟨l1, l2, l3, l4, l5⟩ := P.lt
  exact ⟨P.lt, P.qb, P.ms2.same (ho _ (by omega)), P.fl3.same (ho _ (by omega)), P.ms5.same (ho _ (by omega)), P.n4.same (ho _ (by omega)), h12, own_moved P.qo (fun b hb => ho b (by have := P.qb b hb; omega)), hg _ _ (by omega) P.be⟩
end
def RefP (x : Ms × Fl) (w : World) (e : Ending) (w' : World) : Prop := ∃ sq sa su se, e = .returned (.tuple #[.agg (msv x.1.h sq sa su se), .agg (flv x.2.code x.2.at_ x.2.placed)]) ∧ MsM 0 w' sq sa su se x.1 ∧ Below w.heap.size w w'
theorem MsM.zero_ (w : World) : MsM 0 w .zero .zero .zero .zero Ms.zero := ⟨QsS.nil _ _, RcS.nil _ _, RcS.nil _ _, RcS.nil _ _⟩
set_option maxHeartbeats 16000000 in
theorem ref_parse {A : Option Addr} {n c : Nat} {l : List UInt8} {w : World} (hb : Bs w A n c l) (hn : n ≤ 1000000) : Calls Tryz.prog 9 #[.slice A n c] w (RefP (parseM l n) w) := by
  have hcap := hb.cap
  have hmax := hb.max
  unfold maxLen at hmax
  have HB := Lib.hid hb
  clear hb
  obtain ⟨R, hR⟩ : ∃ R, R = parseM l n := ⟨_, rfl⟩
  rw [← hR]
  unfold parseM at hR
  by_cases h4 : 4000 < n
  · rw [if_pos h4] at hR
    subst hR
    --<< early1
    go_enter Tryz.func9, Tryz.ntmps9
    go_wp2_with (first
      | (refine wpList_alloc_ms rfl rfl ?_; intro w1 a1 b1 z1; have H1 := Lib.hid (And.intro a1 b1); have lt1 := a1.lt; clear a1 b1 z1)
      | (refine wpList_alloc_fl rfl rfl ?_; intro w2 a2 b2 z2; have H2 := Lib.hid (And.intro (H1.out.1.later b2 (Nat.le_refl _)) (And.intro a2 (H1.out.2.trans (b2.mono H1.out.2.size)))); have lt2 := a2.lt; clear a2 b2 z2))
    refine (help_bare 4 _).mono ?_
    rintro e w3 ⟨rfl, b3⟩
    have H3 := Lib.hid (And.intro (H2.out.1.later b3 (Nat.le_refl _)) (And.intro (H2.out.2.1.later b3 (Nat.le_refl _)) (H2.out.2.2.trans (b3.mono H2.out.2.2.size))))
    clear b3
    go_wp2_with (first
      | (refine wpList_store_ms rfl (.tmp 2) (.tmp 16) rfl Mh.zero .zero .zero .zero .zero rfl rfl H3.out.1 ?_; intro w4 a4 o4 z4 g4; have H4 := Lib.hid (And.intro a4 (And.intro (H3.out.2.1.same (o4 _ (Ne.symm (Nat.ne_of_lt lt1)))) (g4 _ _ (Nat.le_refl _) H3.out.2.2))); clear a4 o4 z4 g4)
      | (refine wpList_store_fl rfl (.tmp 3) (.tmp 17) rfl 4 0 false rfl rfl H4.out.2.1 ?_; intro w5 a5 o5 z5 g5; have H5 := Lib.hid (And.intro (H4.out.1.same (o5 _ (Nat.ne_of_lt lt1))) (And.intro a5 (g5 _ _ (Nat.le_of_lt lt1) H4.out.2.2))); clear a5 o5 z5 g5))
    exact bodyPost_ret (results_ms_fl rfl _ rfl rfl H5.out.1 H5.out.2.1) rfl ⟨.zero, .zero, .zero, .zero, rfl, MsM.zero_ _, H5.out.2.2⟩
    -->>
  rw [if_neg h4] at hR
  by_cases h12 : n < 12
  · rw [if_pos h12] at hR
    subst hR
    --<< early2
    go_enter Tryz.func9, Tryz.ntmps9
    go_wp2_with (first
      | (refine wpList_alloc_ms rfl rfl ?_; intro w1 a1 b1 z1; have H1 := Lib.hid (And.intro a1 b1); have lt1 := a1.lt; clear a1 b1 z1)
      | (refine wpList_alloc_fl rfl rfl ?_; intro w2 a2 b2 z2; have H2 := Lib.hid (And.intro (H1.out.1.later b2 (Nat.le_refl _)) (And.intro a2 (H1.out.2.trans (b2.mono H1.out.2.size)))); have lt2 := a2.lt; clear a2 b2 z2))
    refine (help_at 3 0 _).mono ?_
    rintro e w3 ⟨rfl, b3⟩
    have H3 := Lib.hid (And.intro (H2.out.1.later b3 (Nat.le_refl _)) (And.intro (H2.out.2.1.later b3 (Nat.le_refl _)) (H2.out.2.2.trans (b3.mono H2.out.2.2.size))))
    clear b3
    go_wp2_with (first
      | (refine wpList_store_ms rfl (.tmp 2) (.tmp 21) rfl Mh.zero .zero .zero .zero .zero rfl rfl H3.out.1 ?_; intro w4 a4 o4 z4 g4; have H4 := Lib.hid (And.intro a4 (And.intro (H3.out.2.1.same (o4 _ (Ne.symm (Nat.ne_of_lt lt1)))) (g4 _ _ (Nat.le_refl _) H3.out.2.2))); clear a4 o4 z4 g4)
      | (refine wpList_store_fl rfl (.tmp 3) (.tmp 22) rfl 3 0 true rfl rfl H4.out.2.1 ?_; intro w5 a5 o5 z5 g5; have H5 := Lib.hid (And.intro (H4.out.1.same (o5 _ (Nat.ne_of_lt lt1))) (And.intro a5 (g5 _ _ (Nat.le_of_lt lt1) H4.out.2.2))); clear a5 o5 z5 g5))
    exact bodyPost_ret (results_ms_fl rfl _ rfl rfl H5.out.1 H5.out.2.1) rfl ⟨.zero, .zero, .zero, .zero, rfl, MsM.zero_ _, H5.out.2.2⟩
    -->>
  rw [if_neg h12] at hR
  have k2 := fun (w1 : World) (x : Below w.heap.size w w1) => num_any (HB.out.later x (Nat.le_refl _)) 2 2 (by omega) (by omega)
  have k0 := fun (w1 : World) (x : Below w.heap.size w w1) => num_any (HB.out.later x (Nat.le_refl _)) 0 2 (by omega) (by omega)
  have k4 := fun (w1 : World) (x : Below w.heap.size w w1) => num_any (HB.out.later x (Nat.le_refl _)) 4 2 (by omega) (by omega)
  have k6 := fun (w1 : World) (x : Below w.heap.size w w1) => num_any (HB.out.later x (Nat.le_refl _)) 6 2 (by omega) (by omega)
  have k8 := fun (w1 : World) (x : Below w.heap.size w w1) => num_any (HB.out.later x (Nat.le_refl _)) 8 2 (by omega) (by omega)
  have k10 := fun (w1 : World) (x : Below w.heap.size w w1) => num_any (HB.out.later x (Nat.le_refl _)) 10 2 (by omega) (by omega)
  have e0 : be ((l.drop 0).take 2) = hdN l 0 := rfl
  have e2 : be ((l.drop 2).take 2) = hdN l 1 := rfl
  have e4 : be ((l.drop 4).take 2) = hdN l 2 := rfl
  have e6 : be ((l.drop 6).take 2) = hdN l 3 := rfl
  have e8 : be ((l.drop 8).take 2) = hdN l 4 := rfl
  have e10 : be ((l.drop 10).take 2) = hdN l 5 := rfl
  rw [e0] at k0
  rw [e2] at k2
  rw [e4] at k4
  rw [e6] at k6
  rw [e8] at k8
  rw [e10] at k10
  have l0 : hdN l 0 < 65536 := num2_lt l _
  have l1 : hdN l 1 < 65536 := num2_lt l _
  have l2 : hdN l 2 < 65536 := num2_lt l _
  have l3 : hdN l 3 < 65536 := num2_lt l _
  have l4 : hdN l 4 < 65536 := num2_lt l _
  have l5 : hdN l 5 < 65536 := num2_lt l _
  unfold wholeV wholeR at hR
  generalize hdN l 0 = x0 at *
  generalize hdN l 1 = x1 at *
  generalize hdN l 2 = x2 at *
  generalize hdN l 3 = x3 at *
  generalize hdN l 4 = x4 at *
  generalize hdN l 5 = x5 at *
  clear e0 e2 e4 e6 e8 e10
  have hbb : (((x1 : Int) / 32768 == 1) : Bool) = decide (x1 / 32768 = 1) := by
    rw [show (x1 : Int) / 32768 = ((x1 / 32768 : Nat) : Int) from rfl]
    by_cases h : x1 / 32768 = 1
    · rw [h]; rfl
    · rw [decide_eq_false h]
      exact beq_eq_false_iff_ne.2 (by omega)
  have hval : Value.agg #[.int .i64 (x0 : Int), .bool ((x1 : Int) / 32768 == 1), .int .i64 (bits .and .i64 ((x1 : Int) / 2048) 15), .int .i64 (bits .and .i64 (x1 : Int) 15), .int .i64 (bits .and .i64 ((x1 : Int) / 16) 127), .slice none 0 0, .slice none 0 0, .slice none 0 0, .slice none 0 0] = .agg (msv (begunV x0 x1) .zero .zero .zero .zero) := by
    rw [hbb, show (x1 : Int) / 2048 = ((x1 / 2048 : Nat) : Int) from rfl, show (x1 : Int) / 16 = ((x1 / 16 : Nat) : Int) from rfl]
    have e1 := and_low (v := x1 / 2048) (j := 4) (by omega) (by decide)
    have e2 := and_low (v := x1) (j := 4) (by omega) (by decide)
    have e3 := and_low (v := x1 / 16) (j := 7) (by omega) (by decide)
    rw [show ((2 ^ 4 - 1 : Nat) : Int) = 15 from rfl] at e1 e2
    rw [show ((2 ^ 7 - 1 : Nat) : Int) = 127 from rfl] at e3
    rw [e1, e2, e3]
    rfl
  have HV := Lib.hid hval
  have K0 := Lib.hid k0
  have K2 := Lib.hid k2
  have K4 := Lib.hid k4
  have K6 := Lib.hid k6
  have K8 := Lib.hid k8
  have K10 := Lib.hid k10
  obtain ⟨hh, hhd⟩ : ∃ hh : Nat → Int, hh = fun i => match i with | 0 => (x2 : Int) | 1 => (x3 : Int) | 2 => (x4 : Int) | _ => (x5 : Int) := ⟨_, rfl⟩
  have hn4 : Value.agg #[.int .i64 (x2 : Int), .int .i64 (x3 : Int), .int .i64 (x4 : Int), .int .i64 (x5 : Int)] = .agg (n4v hh) := by rw [hhd]; rfl
  have HN4 := Lib.hid hn4
  have HH := Lib.hid (show hh 0 = (x2 : Int) ∧ hh 1 = (x3 : Int) ∧ hh 2 = (x4 : Int) ∧ hh 3 = (x5 : Int) from by rw [hhd]; exact ⟨rfl, rfl, rfl, rfl⟩)
  have HRR := Lib.hid hR
  clear hR
  clear hbb hval k0 k2 k4 k6 k8 k10 hhd hn4
  go_enter Tryz.func9, Tryz.ntmps9
  go_wp2_with (first
    | (refine wpList_alloc_ms rfl rfl ?_; intro w1 a1 b1 z1; have H1 := Lib.hid (And.intro a1 b1); have lt1 := a1.lt; clear a1 b1 z1)
    | (refine wpList_alloc_fl rfl rfl ?_; intro w2 a2 b2 z2; have H2 := Lib.hid (And.intro (H1.out.1.later b2 (Nat.le_refl _)) (And.intro a2 (H1.out.2.trans (b2.mono H1.out.2.size)))); have lt2 := a2.lt; clear a2 b2 z2))
  refine (K2.out w2 H2.out.2.2).mono ?_
  rintro e _ ⟨rfl, rfl⟩
  go_wp2_with fail
  refine (K0.out w2 H2.out.2.2).mono ?_
  rintro e _ ⟨rfl, rfl⟩
  go_wp2_with (first
    | (refine wpList_alloc_ms rfl rfl ?_; intro w3 a3 b3 z3; have H3 := Lib.hid (And.intro (And.intro (H2.out.1.later b3 (Nat.le_refl _)) (H2.out.2.1.later b3 (Nat.le_refl _))) (And.intro a3 (H2.out.2.2.trans (b3.mono H2.out.2.2.size)))); have lt3 := a3.lt; clear a3 b3 z3)
    | (refine wpList_store_ms rfl (.tmp 5) (.tmp 38) rfl (begunV x0 x1) .zero .zero .zero .zero rfl HV.out H3.out.2.1 ?_; intro w4 a4 o4 z4 g4; have H4 := Lib.hid (And.intro (And.intro (H3.out.1.1.same (o4 _ (Nat.ne_of_lt (Nat.lt_trans lt1 lt2)))) (H3.out.1.2.same (o4 _ (Nat.ne_of_lt lt2)))) (And.intro a4 (g4 _ _ (Nat.le_of_lt (Nat.lt_trans lt1 lt2)) H3.out.2.2))); have lt4 := a4.lt; clear a4 o4 z4 g4))
  refine (K4.out w4 H4.out.2.2).mono ?_
  rintro e _ ⟨rfl, rfl⟩
  go_wp2_with fail
  refine (K6.out w4 H4.out.2.2).mono ?_
  rintro e _ ⟨rfl, rfl⟩
  go_wp2_with fail
  refine (K8.out w4 H4.out.2.2).mono ?_
  rintro e _ ⟨rfl, rfl⟩
  go_wp2_with fail
  refine (K10.out w4 H4.out.2.2).mono ?_
  rintro e _ ⟨rfl, rfl⟩
  go_upto_region 8 with (first
    | (refine wpList_alloc_n4 rfl rfl ?_; intro w5 a5 b5 z5; have H5 := Lib.hid (And.intro (And.intro (H4.out.1.1.later b5 (Nat.le_refl _)) (H4.out.1.2.later b5 (Nat.le_refl _))) (And.intro (H4.out.2.1.later b5 (Nat.le_refl _)) (And.intro a5 (H4.out.2.2.trans (b5.mono H4.out.2.2.size))))); have lt5 := a5.lt; clear a5 b5 z5)
    | (refine wpList_store_n4 rfl (.tmp 6) (.tmp 47) rfl hh rfl HN4.out H5.out.2.2.1 ?_; intro w6 a6 o6 z6 g6; have H6 := Lib.hid (And.intro (And.intro (H5.out.1.1.same (o6 _ (Nat.ne_of_lt (Nat.lt_trans lt1 (Nat.lt_trans lt2 lt4))))) (H5.out.1.2.same (o6 _ (Nat.ne_of_lt (Nat.lt_trans lt2 lt4))))) (And.intro (H5.out.2.1.same (o6 _ (Nat.ne_of_lt lt4))) (And.intro a6 (g6 _ _ (Nat.le_of_lt (Nat.lt_trans lt1 (Nat.lt_trans lt2 lt4))) H5.out.2.2.2)))); have lt6 := a6.lt; clear a6 o6 z6 g6))
  obtain ⟨g3, hg3⟩ : ∃ g, w1.heap.size = g := ⟨_, rfl⟩
  obtain ⟨g5, hg5⟩ : ∃ g, w2.heap.size = g := ⟨_, rfl⟩
  obtain ⟨g6, hg6⟩ : ∃ g, w4.heap.size = g := ⟨_, rfl⟩
  rw [hg3] at H6 lt1 lt2
  rw [hg5] at H6 lt2 lt4
  rw [hg6] at H6 lt4 lt6
  simp only [hg3, hg5, hg6]
  have HZ := Lib.hid (show w.heap.size < g3 ∧ g3 < g5 ∧ g5 < g6 ∧ g6 < w6.heap.size from ⟨by omega, by omega, by omega, by omega⟩)
  clear lt1 lt2 lt3 lt4 lt5 lt6 hg3 hg5 hg6
  have c0 : w6.cell? ⟨g6, 0, none⟩ = some (.int .i64 (x2 : Int)) := (H6.out.2.2.1.cell 0).trans (by show some (Value.int .i64 (hh 0)) = _; rw [HH.out.1])
  have c1 : w6.cell? ⟨g6, 1, none⟩ = some (.int .i64 (x3 : Int)) := (H6.out.2.2.1.cell 1).trans (by show some (Value.int .i64 (hh 1)) = _; rw [HH.out.2.1])
  have c2 : w6.cell? ⟨g6, 2, none⟩ = some (.int .i64 (x4 : Int)) := (H6.out.2.2.1.cell 2).trans (by show some (Value.int .i64 (hh 2)) = _; rw [HH.out.2.2.1])
  have c3 : w6.cell? ⟨g6, 3, none⟩ = some (.int .i64 (x5 : Int)) := (H6.out.2.2.1.cell 3).trans (by show some (Value.int .i64 (hh 3)) = _; rw [HH.out.2.2.2])
  by_cases h64 : 64 < x2 + x3 + x4 + x5
  · have hR := HRR.out
    rw [if_pos h64] at hR
    have HRF := Lib.hid hR
    clear hR
    --<< early3
    go_wp2_with fail
    refine (help_at 4 4 _).mono ?_
    rintro e w7 ⟨rfl, b7⟩
    have H7 := Lib.hid (And.intro (H6.out.1.1.later b7 (Nat.le_refl _)) (And.intro (H6.out.1.2.later b7 (Nat.le_refl _)) (H6.out.2.2.2.trans (b7.mono H6.out.2.2.2.size))))
    clear b7
    go_wp2_with (first
      | (refine wpList_store_ms rfl (.tmp 2) (.tmp 60) rfl Mh.zero .zero .zero .zero .zero rfl rfl H7.out.1 ?_; intro w8 a8 o8 z8 g8; have H8 := Lib.hid (And.intro a8 (And.intro (H7.out.2.1.same (o8 _ (Ne.symm (Nat.ne_of_lt HZ.out.1)))) (g8 _ _ (Nat.le_refl _) H7.out.2.2))); clear a8 o8 z8 g8)
      | (refine wpList_store_fl rfl (.tmp 3) (.tmp 61) rfl 4 4 true rfl rfl H8.out.2.1 ?_; intro w9 a9 o9 z9 g9; have H9 := Lib.hid (And.intro (H8.out.1.same (o9 _ (Nat.ne_of_lt HZ.out.1))) (And.intro a9 (g9 _ _ (Nat.le_of_lt HZ.out.1) H8.out.2.2))); clear a9 o9 z9 g9))
    have hRF := HRF.out
    subst hRF
    exact bodyPost_ret (results_ms_fl rfl _ rfl rfl H9.out.1 H9.out.2.1) rfl ⟨.zero, .zero, .zero, .zero, rfl, MsM.zero_ _, H9.out.2.2⟩
    -->>
  have hR := HRR.out
  rw [if_neg h64] at hR
  have hself := listV_self (rdQ l n) x2 12
  obtain ⟨T, hT⟩ : ∃ T, listV (rdQ l n) x2 12 = T := ⟨_, rfl⟩
  have hself : (listV (rdQ l n) x2 12).behind [] = T := hself.trans hT
  rw [hT] at hR
  have HS := Lib.hid hself
  replace HRR := Lib.hid hR
  clear hself hT hR
  go_wp2_with fail
  obtain ⟨wb, hwb⟩ : ∃ b, w6.heap.size = b := ⟨_, rfl⟩
  have HWB := Lib.hid hwb
  clear hwb
  clear c0 c1 c2 c3
  go_loopw [7, 8] (fun at_ i wr => ∃ (j P : Nat) (s : Sl) (xs : List Qs), j ≤ x2 ∧ P ≤ n ∧ xs.length = j ∧ i = .int .i64 j ∧ at_ = .int .i64 P ∧ QsO wr wb (.slice s.A s.n s.c) xs ∧ (listV (rdQ l n) (x2 - j) P).behind xs = T ∧ MsBox wr w.heap.size .zero .zero .zero .zero .zero ∧ FlBox wr g3 0 0 false ∧ MsBox wr g5 (begunV x0 x1) s .zero .zero .zero ∧ N4Box wr g6 hh ∧ Below w.heap.size w wr ∧ wb ≤ wr.heap.size) (fun _ i _ => x2 - (intOf i).toNat)
  case atStart => exact ⟨0, 12, .zero, [], Nat.zero_le _, by omega, rfl, rfl, rfl, QsO.nil _ _, HS.out, H6.out.1.1, H6.out.1.2, H6.out.2.1, H6.out.2.2.1, H6.out.2.2.2, Nat.le_of_eq HWB.out.symm⟩
  case round =>
    obtain ⟨j, P, s, xs, hj, hP, hx, rfl, rfl, ho, ht, r2, r3, r5, r6, hbe, hwr⟩ := hrel
    have c0 : wr.cell? ⟨g6, 0, none⟩ = some (.int .i64 (x2 : Int)) := (r6.cell 0).trans (by show some (Value.int .i64 (hh 0)) = _; rw [HH.out.1])
    have HO := Lib.hid (And.intro ho (And.intro (And.intro r2 r3) (And.intro (And.intro r5 r6) hbe)))
    have HLT := Lib.hid (show w.heap.size < g3 ∧ g3 < g5 ∧ g5 < g6 ∧ g6 < wb ∧ wb ≤ wr.heap.size from by have h1 := HZ.out; have h2 := HWB.out; exact ⟨by omega, by omega, by omega, by omega, hwr⟩)
    clear ho r2 r3 r5 r6 hbe hwr
    by_cases hlt : j < x2
    · have hnx := readQ_next (l := l) (n := n) (at_ := (P : Int))
      have KQ := ref_readQ (HB.out.later HO.out.2.2.2 (Nat.le_refl _)) hn (P : Int) (by omega)
      rw [show x2 - j = (x2 - j - 1) + 1 by omega] at ht
      obtain ⟨D, hD⟩ : ∃ D, readQv l n (P : Int) = D := ⟨_, rfl⟩
      have hrd : rdQ l n P = (D.q, D.next, D.f) := by unfold rdQ; rw [hD]
      rw [hD] at KQ hnx
      unfold RefQ at KQ
      obtain ⟨q, nx, ⟨fc, fa, fp⟩⟩ := D
      dsimp only at KQ hnx hrd
      clear hD
      by_cases hc : fc ≠ 0
      · rw [listV_bad _ _ (by rw [hrd]; exact hc), hrd] at ht
        dsimp only at ht
        have hcb : (fc != 0) = true := by rw [bne_iff_ne]; exact hc
        have KQ := Lib.hid KQ
        have hR := HRR.out
        rw [← ht, if_pos (show (Ls.bad (α := Qs) ⟨fc, fa, fp⟩).f.code ≠ 0 from hc)] at hR
        have HRF := Lib.hid (hR.trans (if_pos hc) : R = (.zero, ⟨fc, fa, fp⟩))
        clear hnx hrd hR ht
        --<< qbad
        go_wp2_with fail
        refine KQ.out.mono ?_
        rintro e w7 ⟨rfl, b7⟩
        have H7 := Lib.hid (And.intro (And.intro (HO.out.2.1.1.later b7 (Nat.le_refl _)) (HO.out.2.1.2.later b7 (Nat.le_refl _))) (And.intro (HO.out.2.2.2.trans (b7.mono HO.out.2.2.2.size)) b7.size))
        clear b7
        go_wp2_with (first
          | (refine wpList_store_fl rfl (.tmp 11) (.tmp 74) rfl fc fa fp rfl rfl H10.out.2.1 ?_; intro w11 a11 o11 z11 g11; have H11 := Lib.hid (And.intro (And.intro (H10.out.1.1.same (o11 _ (by have h1 := HLT.out; have h2 := H7.out.2.2; have h3 := HG.out; omega))) (H10.out.1.2.same (o11 _ (by have h1 := HLT.out; have h2 := H7.out.2.2; have h3 := HG.out; omega)))) (And.intro a11 (g11 _ _ (by have h1 := HLT.out; have h2 := H7.out.2.2; have h3 := HG.out; omega) H10.out.2.2))); have e0 := fl_head a11; clear a11 o11 z11 g11)
          | (refine wpList_store_qs rfl (.tmp 9) (.tmp 72) rfl q rfl rfl H9.out.2.1 ?_; intro w10 a10 o10 z10 g10; have H10 := Lib.hid (And.intro (And.intro (H9.out.1.1.same (o10 _ (by have h1 := HLT.out; have h2 := H7.out.2.2; omega))) (H9.out.1.2.same (o10 _ (by have h1 := HLT.out; have h2 := H7.out.2.2; omega)))) (And.intro (H9.out.2.2.1.same (o10 _ (by have h3 := HG.out; omega))) (g10 _ _ (by have h1 := HLT.out; have h2 := H7.out.2.2; omega) H9.out.2.2.2))); clear a10 o10 z10 g10)
          | (refine wpList_alloc_fl rfl rfl ?_; intro w9 a9 b9 z9; have HG := Lib.hid H8.out.2.1.lt; have H9 := Lib.hid (And.intro (And.intro (H8.out.1.1.later b9 (Nat.le_refl _)) (H8.out.1.2.later b9 (Nat.le_refl _))) (And.intro (H8.out.2.1.later b9 (Nat.le_refl _)) (And.intro a9 (H8.out.2.2.trans (b9.mono H8.out.2.2.size))))); clear a9 b9 z9)
          | (refine wpList_alloc_qs rfl rfl ?_; intro w8 a8 b8 z8; have H8 := Lib.hid (And.intro (And.intro (H7.out.1.1.later b8 (Nat.le_refl _)) (H7.out.1.2.later b8 (Nat.le_refl _))) (And.intro a8 (H7.out.2.1.trans (b8.mono H7.out.2.1.size)))); clear a8 b8 z8))
        obtain ⟨gf, hgf⟩ : ∃ g, w8.heap.size = g := ⟨_, rfl⟩
        have hgl : w.heap.size < g3 ∧ g3 < gf := by have h1 := HLT.out; have h2 := H7.out.2.2; have h3 := HG.out; omega
        have hS : FlBox w11.drew gf fc fa fp := by rw [← hgf]; exact H11.out.2.1
        have HM2 := Lib.hid (And.intro H11.out.1 (Below.drew H11.out.2.2))
        rw [hgf]
        clear e0 hgf
        obtain ⟨Z, hZ⟩ : ∃ Z, Value.agg (msv .zero .zero .zero .zero .zero) = Z := ⟨_, rfl⟩
        have HZZ := Lib.hid hZ
        clear hZ
        refine rg_begin (fun w' => FlBox w' gf fc fa fp) 4 (by kernel_rfl) rfl ?_
        refine rg_load 1 rfl (by kernel_rfl) (by kernel_rfl) (by kernel_rfl) (gf) (0) ((flv fc fa fp)) (fun _ _ _ h => h) (by rfl) 36 (.tmp 11) rfl rfl hS (fun w2 h2 => (FlBox.range h2)) Tryz.underlying36 rfl (fl_size _ _ _) ?_
        simp only [Act.put, List.setIfInBounds_toArray, List.set_cons_zero, List.set_cons_succ]
        refine rg_step 0 rfl (by kernel_rfl) (by rfl) (fun K hK => ?_)
        refine wp_build_msZ Z HZZ.out rfl ?_
        refine hK.out _ _ hS ?_
        clear hK K
        try simp only [Act.put, List.setIfInBounds_toArray, List.set_cons_zero, List.set_cons_succ]
        refine rg_step 2 rfl (by kernel_rfl) (by rfl) (fun K hK => ?_)
        refine wp_store_msF (.tmp 2) (.tmp 78) rfl .zero .zero .zero .zero .zero rfl HZZ.out.symm HM2.out.1.1 ?_
        intro x4' a4 o4 g4
        replace hS : FlBox x4' gf fc fa fp := FlBox.same hS (o4 _ (by omega))
        have HX4 := Lib.hid (And.intro a4 (And.intro (FlBox.same HM2.out.1.2 (o4 _ (by omega))) (g4 w.heap.size w (Nat.le_refl _) HM2.out.2)))
        clear a4 o4 g4
        refine hK.out _ _ hS ?_
        clear hK K
        simp only [Act.put]
        refine rg_step 3 rfl (by kernel_rfl) (by rfl) (fun K hK => ?_)
        refine wp_store_flF (.tmp 3) (.tmp 79) rfl (fc) (fa) (fp) rfl rfl HX4.out.2.1 ?_
        intro x5' a5 o5 g5'
        replace hS : FlBox x5' gf fc fa fp := FlBox.same hS (o5 _ (by omega))
        have HX5 := Lib.hid (And.intro (MsBox.same HX4.out.1 (o5 _ (by omega))) (And.intro a5 (g5' w.heap.size w (by omega) HX4.out.2.2)))
        clear a5 o5 g5'
        refine hK.out _ _ hS ?_
        clear hK K
        simp only [Act.put]
        refine rg_done (by kernel_rfl) ?_
        go_wp2_with fail
        have hRF := HRF.out
        subst hRF
        exact bodyPost_ret (results_ms_fl rfl _ rfl rfl HX5.out.1 HX5.out.2.1) rfl ⟨.zero, .zero, .zero, .zero, rfl, MsM.zero_ _, HX5.out.2.2⟩
        -->>
      · have hc0 : fc = 0 := Decidable.not_not.1 hc
        obtain ⟨hn1, hf1⟩ := hnx hc0
        rw [listV_on _ _ (by rw [hrd]; exact hc0), hrd] at ht
        dsimp only at ht
        have hcb : (fc != 0) = false := by rw [hc0]; rfl
        have KQ := Lib.hid KQ
        have HT := Lib.hid ht
        clear ht hnx hf1 hc hrd hc0
        --<< qgood
        go_wp2_with fail
        refine KQ.out.mono ?_
        rintro e w7 ⟨rfl, b7⟩
        have H7 := Lib.hid (And.intro (HO.out.1.later b7) (And.intro (And.intro (HO.out.2.1.1.later b7 (Nat.le_refl _)) (HO.out.2.1.2.later b7 (Nat.le_refl _))) (And.intro (And.intro (HO.out.2.2.1.1.later b7 (Nat.le_refl _)) (HO.out.2.2.1.2.later b7 (Nat.le_refl _))) (And.intro (HO.out.2.2.2.trans (b7.mono HO.out.2.2.2.size)) b7.size))))
        clear b7
        go_wp2_with (first
          | (refine wpList_store_fl rfl (.tmp 11) (.tmp 74) rfl fc fa fp rfl rfl H10.out.2 ?_; intro w11 a11 o11 z11 g11; have b11 := g11 _ _ (Nat.le_of_lt HG.out) HB10.out; have H11 := Lib.hid (And.intro (H10.out.1.same (o11 _ (Nat.ne_of_lt HG.out))) (And.intro (H7.out.1.later b11) (And.intro (And.intro (H7.out.2.1.1.later b11 (Nat.le_refl _)) (H7.out.2.1.2.later b11 (Nat.le_refl _))) (And.intro (And.intro (H7.out.2.2.1.1.later b11 (Nat.le_refl _)) (H7.out.2.2.1.2.later b11 (Nat.le_refl _))) (And.intro (H7.out.2.2.2.1.trans (b11.mono H7.out.2.2.2.1.size)) (Nat.le_trans H7.out.2.2.2.2 b11.size)))))); have e0 := fl_head a11; have k5 : w11.cell? ⟨g5, 5, none⟩ = some (.slice s.A s.n s.c) := (H7.out.2.2.1.1.later b11 (Nat.le_refl _)).cell 5; clear a11 o11 z11 g11 b11)
          | (refine wpList_store_qs rfl (.tmp 9) (.tmp 72) rfl q rfl rfl H9.out.1 ?_; intro w10 a10 o10 z10 g10; have H10 := Lib.hid (And.intro a10 (H9.out.2.1.same (o10 _ (Ne.symm (Nat.ne_of_lt HG.out))))); have HB10 := Lib.hid (g10 _ _ (Nat.le_refl _) H9.out.2.2); clear a10 o10 z10 g10)
          | (refine wpList_alloc_fl rfl rfl ?_; intro w9 a9 b9 z9; have HG := Lib.hid H8.out.1.lt; have H9 := Lib.hid (And.intro (H8.out.1.later b9 (Nat.le_refl _)) (And.intro a9 (H8.out.2.trans (b9.mono H8.out.2.size)))); clear a9 b9 z9)
          | (refine wpList_alloc_qs rfl rfl ?_; intro w8 a8 b8 z8; have H8 := Lib.hid (And.intro a8 b8); clear a8 b8 z8)
          | (refine wpList_load_qs rfl (.tmp 9) rfl rfl H11.out.1 ?_)
          | (refine wpList_lit1 rfl 23 51 (.tmp 82) rfl (qsv q) rfl infoQ rfl (by decide) (by decide) Tryz.underlying23 ?_; have b12 : Below w11.heap.size w11 (w11.alloc (.cells (qsv q) 51)) := (Below.refl _ _).alloc (Nat.le_refl _) _; have H12 := Lib.hid (And.intro (QsBox.new w11 q) (And.intro (H11.out.2.1.later b12) (And.intro (And.intro (H11.out.2.2.1.1.later b12 (Nat.le_refl _)) (H11.out.2.2.1.2.later b12 (Nat.le_refl _))) (And.intro (And.intro (H11.out.2.2.2.1.1.later b12 (Nat.le_refl _)) (H11.out.2.2.2.1.2.later b12 (Nat.le_refl _))) (And.intro (H11.out.2.2.2.2.1.trans (b12.mono H11.out.2.2.2.2.1.size)) (Nat.le_trans H11.out.2.2.2.2.2 b12.size)))))); clear b12 k5; generalize w11.alloc (.cells (qsv q) 51) = w12 at H12 ⊢)
          | (at_builtin; refine wpList_push_qs rfl (.tmp 81) (.tmp 83) rfl wb (.slice s.A s.n s.c) xs rfl H12.out.2.1 rfl H12.out.1 (by omega) (Nat.le_trans HLT.out.2.2.2.2 H12.out.2.2.2.2.2) ?_; intro v13 w13 o13 g13; have f13 : ∀ k, k < wb → w13.heap[k]? = w12.heap[k]? := (fun k hk => g13.block k (Nat.lt_of_lt_of_le hk (Nat.le_trans HLT.out.2.2.2.2 H12.out.2.2.2.2.2)) (fun e => by have := (World.ownsRow.lt H12.out.2.1 k e.symm).1; omega)); have b13 := H12.out.2.2.2.2.1.grown g13 H12.out.2.2.2.2.1.size (fun x hx => by have h1 := (World.ownsRow.lt H12.out.2.1 x hx).1; have h2 := HLT.out; omega); obtain ⟨A13, c13, rfl, s13⟩ := QsS.of_own o13; obtain ⟨n13, hn13⟩ : ∃ n, (xs ++ [q]).length = n := ⟨_, rfl⟩; rw [hn13] at o13 ⊢; have H13 := Lib.hid (And.intro o13 (And.intro (And.intro (H12.out.2.2.1.1.same (f13 _ (by have h2 := HLT.out; omega))) (H12.out.2.2.1.2.same (f13 _ (by have h2 := HLT.out; omega)))) (And.intro (And.intro (H12.out.2.2.2.1.1.same (f13 _ (by have h2 := HLT.out; omega))) (H12.out.2.2.2.1.2.same (f13 _ (by have h2 := HLT.out; omega)))) (And.intro b13 (Nat.le_trans H12.out.2.2.2.2.2 g13.size))))); clear o13 g13 f13 b13 s13 hn13)
          | (refine wpList_put_ms rfl 23 (.tmp 86) (.tmp 84) rfl 5 ⟨A13, n13, c13⟩ rfl rfl (by kernel_rfl) H13.out.2.2.1.1 (by decide) (sq' := ⟨A13, n13, c13⟩) (sa' := .zero) (su' := .zero) (se' := .zero) rfl ?_; intro w14 a14 o14 z14 g14; have H14 := Lib.hid (And.intro (own_moved H13.out.1 fun b hb => o14 b (by have h1 := (World.ownsRow.lt H13.out.1 b hb).1; have h2 := HLT.out; omega)) (And.intro (And.intro (H13.out.2.1.1.same (o14 _ (by have h2 := HLT.out; omega))) (H13.out.2.1.2.same (o14 _ (by have h2 := HLT.out; omega)))) (And.intro (And.intro a14 (H13.out.2.2.1.2.same (o14 _ (by have h2 := HLT.out; omega)))) (And.intro (g14 _ _ (by have h2 := HLT.out; omega) H13.out.2.2.2.1) (z14 ▸ (Nat.le_trans HLT.out.2.2.2.2 H13.out.2.2.2.2)))))); clear a14 o14 z14 g14))
        go_roundw
        case rel => exact ⟨j + 1, nx, ⟨A13, n13, c13⟩, xs ++ [q], hlt, hn1, by simp [hx], by go_num, rfl, H14.out.1, by rw [show x2 - (j + 1) = x2 - j - 1 by omega]; exact HT.out, H14.out.2.1.1, H14.out.2.1.2, H14.out.2.2.1.1, H14.out.2.2.1.2, H14.out.2.2.2.1, H14.out.2.2.2.2⟩
        case measure => simp [intOf]; omega
        -->>
    · obtain rfl : j = x2 := by omega
      rw [Nat.sub_self, listV_end] at ht
      have hR := HRR.out
      rw [← ht, if_neg (show ¬ ((⟨xs, P, fl0⟩ : Ls Qs).f.code ≠ 0) from fun h => h rfl)] at hR
      dsimp only at hR
      replace HRR := Lib.hid hR
      clear hR ht
      have HQ := Lib.hid (fun b (hb : (Value.slice s.A s.n s.c).ownBlock = some b) => World.ownsRow.lt HO.out.1 b hb)
      go_wp2_with (first
        | (refine wpList_alloc_fl rfl rfl ?_; intro w7 a7 b7 z7; have P7 := Lib.hid (show Pz w g3 g5 g6 wr.heap.size wb (begunV x0 x1) hh s xs .zero .zero .zero 0 0 false w7 from ⟨HLT.out, fun b hb => (HQ.out b hb).2, HO.out.2.1.1.later b7 (Nat.le_refl _), HO.out.2.1.2.later b7 (Nat.le_refl _), HO.out.2.2.1.1.later b7 (Nat.le_refl _), HO.out.2.2.1.2.later b7 (Nat.le_refl _), a7, HO.out.1.later b7, HO.out.2.2.2.trans (b7.mono HO.out.2.2.2.size)⟩); have lt7 := a7.lt; clear a7 b7 z7)
        | (refine wpList_store_fl rfl (.tmp 12) (.tmp 87) rfl 0 0 false rfl rfl P7.out.fl12 ?_; intro w8 a8 o8 z8 g8; have P8 := Lib.hid (P7.out.put12 a8 o8 g8); have kc1 : w8.cell? ⟨g6, 1, none⟩ = some (.int .i64 (x3 : Int)) := (P8.out.n4.cell 1).trans (by show some (Value.int .i64 (hh 1)) = _; rw [HH.out.2.1]); have lt8 : wr.heap.size < w8.heap.size := (by rw [z8]; exact lt7); clear a8 o8 z8 g8 lt7))
      obtain ⟨g12, hg12⟩ : ∃ g, wr.heap.size = g := ⟨_, rfl⟩
      rw [hg12] at P8 lt8 ⊢
      have hgl : w.heap.size < g3 ∧ g3 < g12 := by have := P8.out.lt; omega
      have hg5 : g5 < g12 := by have := P8.out.lt; omega
      clear hg12
      have hrd := fun p => readR_in (l := l) (n := n) (at_ := p)
      have hrd' : ∀ p, (rdR l n p).2.2.code = 0 → (rdR l n p).2.1 ≤ n := fun p h => hrd _ h
      clear hrd
      have HRD := Lib.hid hrd'
      clear hrd'
      have KR1 := ref_records (HB.out.later P8.out.be (Nat.le_refl _)) hn P x3 (by omega) (by omega)
      have hin1 := listV_in HRD.out x3 P hP
      obtain ⟨T1, hT1⟩ : ∃ T, listV (rdR l n) x3 P = T := ⟨_, rfl⟩
      have hR := HRR.out
      rw [hT1] at KR1 hin1 hR
      clear HRR hT1
      obtain ⟨ys1, p1, ⟨fc1, fa1, fp1⟩⟩ := T1
      dsimp only at KR1 hin1 hR
      have HRR := Lib.hid hR
      clear hR
      have KR1 := Lib.hid KR1
      refine KR1.out.mono ?_
      clear KR1
      rintro e u1 ⟨A1, n1, c1, rfl, q1, b1⟩
      have PA1 := Lib.hid (P8.out.later b1)
      have ltA1 := Nat.lt_of_lt_of_le lt8 b1.size
      have RA1 := Lib.hid (q1.low (lo' := g12 + 1) lt8)
      clear b1 q1 lt8
      by_cases hc1 : fc1 ≠ 0
      · skip
        --<< bad1
        have hR := HRR.out
        rw [if_pos hc1] at hR
        have HRF := Lib.hid (hR.trans (if_pos hc1) : R = (.zero, ⟨fc1, fa1, fp1⟩))
        have hq1 : (fc1 == 0) = false := by rw [beq_eq_false_iff_ne]; exact hc1
        have hq2 : (fc1 != 0) = true := by rw [bne_iff_ne]; exact hc1
        clear hR hin1 hc1
        go_wp2_with (first
          | (refine wpList_put_ms rfl 24 (.tmp 97) (.tmp 94) rfl 6 ⟨A1, n1, c1⟩ rfl rfl (by kernel_rfl) PA1.out.ms5 (by decide) (sq' := s) (sa' := ⟨A1, n1, c1⟩) (su' := .zero) (se' := .zero) rfl ?_; intro s1 a' o' z' g'; have PB1 := Lib.hid (PA1.out.put5 a' o' g'); have RB1 := Lib.hid (RA1.out.away fun k hk => o' k (by omega)); have ltB1 : g12 < s1.heap.size := (by rw [z']; exact ltA1); clear a' o' z' g')
          | (refine wpList_store_fl rfl (.tmp 12) (.tmp 96) rfl fc1 fa1 fp1 rfl rfl PB1.out.fl12 ?_; intro t1 a' o' z' g'; have PC1 := Lib.hid (PB1.out.put12 a' o' g'); have R11 := Lib.hid (RB1.out.away fun k hk => o' k (by omega)); have ltC1 : g12 < t1.heap.size := (by rw [z']; exact ltB1); have e1 := fl_head a'; clear a' o' z' g' ltB1))
        clear e1 hq1 hq2
        have hS : FlBox t1.drew g12 fc1 fa1 fp1 := PC1.out.fl12
        have HM2 := Lib.hid (And.intro (And.intro PC1.out.ms2 PC1.out.fl3) (Below.drew PC1.out.be))
        obtain ⟨Z, hZ⟩ : ∃ Z, Value.agg (msv .zero .zero .zero .zero .zero) = Z := ⟨_, rfl⟩
        have HZZ := Lib.hid hZ
        clear hZ
        refine rg_begin (fun w' => FlBox w' g12 fc1 fa1 fp1) 4 (by kernel_rfl) rfl ?_
        refine rg_load 1 rfl (by kernel_rfl) (by kernel_rfl) (by kernel_rfl) (g12) (0) ((flv fc1 fa1 fp1)) (fun _ _ _ h => h) (by rfl) 36 (.tmp 12) rfl rfl hS (fun w2 h2 => (FlBox.range h2)) Tryz.underlying36 rfl (fl_size _ _ _) ?_
        simp only [Act.put, List.setIfInBounds_toArray, List.set_cons_zero, List.set_cons_succ]
        refine rg_step 0 rfl (by kernel_rfl) (by rfl) (fun K hK => ?_)
        refine wp_build_msZ Z HZZ.out rfl ?_
        refine hK.out _ _ hS ?_
        clear hK K
        try simp only [Act.put, List.setIfInBounds_toArray, List.set_cons_zero, List.set_cons_succ]
        refine rg_step 2 rfl (by kernel_rfl) (by rfl) (fun K hK => ?_)
        refine wp_store_msF (.tmp 2) (.tmp 138) rfl .zero .zero .zero .zero .zero rfl HZZ.out.symm HM2.out.1.1 ?_
        intro x4' a4 o4 g4
        replace hS : FlBox x4' g12 fc1 fa1 fp1 := FlBox.same hS (o4 _ (by omega))
        have HX4 := Lib.hid (And.intro a4 (And.intro (FlBox.same HM2.out.1.2 (o4 _ (by omega))) (g4 w.heap.size w (Nat.le_refl _) HM2.out.2)))
        clear a4 o4 g4
        refine hK.out _ _ hS ?_
        clear hK K
        simp only [Act.put]
        refine rg_step 3 rfl (by kernel_rfl) (by rfl) (fun K hK => ?_)
        refine wp_store_flF (.tmp 3) (.tmp 139) rfl (fc1) (fa1) (fp1) rfl rfl HX4.out.2.1 ?_
        intro x5' a5 o5 g5'
        replace hS : FlBox x5' g12 fc1 fa1 fp1 := FlBox.same hS (o5 _ (by omega))
        have HX5 := Lib.hid (And.intro (MsBox.same HX4.out.1 (o5 _ (by omega))) (And.intro a5 (g5' w.heap.size w (by omega) HX4.out.2.2)))
        clear a5 o5 g5'
        refine hK.out _ _ hS ?_
        clear hK K
        simp only [Act.put]
        refine rg_done (by kernel_rfl) ?_
        go_wp2_with fail
        have hRF := HRF.out
        subst hRF
        exact bodyPost_ret (results_ms_fl rfl _ rfl rfl HX5.out.1 HX5.out.2.1) rfl ⟨.zero, .zero, .zero, .zero, rfl, MsM.zero_ _, HX5.out.2.2⟩
        -->>
      · skip
        have hR := HRR.out
        rw [if_neg hc1] at hR
        replace HRR := Lib.hid hR
        clear hR
        obtain ⟨hp1, hf1⟩ := hin1 (Decidable.not_not.1 hc1)
        obtain ⟨rfl, rfl, rfl⟩ : fc1 = 0 ∧ fa1 = 0 ∧ fp1 = false := by cases hf1; exact ⟨rfl, rfl, rfl⟩
        clear hf1 hin1 hc1
        go_wp2_with (first
          | (refine wpList_put_ms rfl 24 (.tmp 97) (.tmp 94) rfl 6 ⟨A1, n1, c1⟩ rfl rfl (by kernel_rfl) PA1.out.ms5 (by decide) (sq' := s) (sa' := ⟨A1, n1, c1⟩) (su' := .zero) (se' := .zero) rfl ?_; intro s1 a' o' z' g'; have PB1 := Lib.hid (PA1.out.put5 a' o' g'); have RB1 := Lib.hid (RA1.out.away fun k hk => o' k (by omega)); have ltB1 : g12 < s1.heap.size := (by rw [z']; exact ltA1); clear a' o' z' g')
          | (refine wpList_store_fl rfl (.tmp 12) (.tmp 96) rfl 0 0 false rfl rfl PB1.out.fl12 ?_; intro t1 a' o' z' g'; have PC1 := Lib.hid (PB1.out.put12 a' o' g'); have R11 := Lib.hid (RB1.out.away fun k hk => o' k (by omega)); have ltC1 : g12 < t1.heap.size := (by rw [z']; exact ltB1); have e1 := fl_head a'; have k2 : t1.cell? ⟨g6, 2, none⟩ = some (.int .i64 (x4 : Int)) := (PC1.out.n4.cell 2).trans (by show some (Value.int .i64 (hh 2)) = _; rw [HH.out.2.2.1]); clear a' o' z' g' ltB1))
        clear e1 kc1
        have KR2 := ref_records (HB.out.later PC1.out.be (Nat.le_refl _)) hn p1 x4 (by omega) (by omega)
        have hin2 := listV_in HRD.out x4 p1 hp1
        obtain ⟨T2, hT2⟩ : ∃ T, listV (rdR l n) x4 p1 = T := ⟨_, rfl⟩
        have hR := HRR.out
        rw [hT2] at KR2 hin2 hR
        clear HRR hT2
        obtain ⟨ys2, p2, ⟨fc2, fa2, fp2⟩⟩ := T2
        dsimp only at KR2 hin2 hR
        have HRR := Lib.hid hR
        clear hR
        have KR2 := Lib.hid KR2
        refine KR2.out.mono ?_
        clear KR2
        rintro e u2 ⟨A2, n2, c2, rfl, q2, b2⟩
        have PA2 := Lib.hid (PC1.out.later b2)
        have ltA2 := Nat.lt_of_lt_of_le ltC1 b2.size
        have RA2 := Lib.hid (q2.low (lo' := g12 + 1) ltC1)
        have RA21 := Lib.hid (R11.out.later b2 (Nat.le_refl _))
        clear b2 q2 ltC1
        by_cases hc2 : fc2 ≠ 0
        · skip
          --<< bad2
          have hR := HRR.out
          rw [if_pos hc2] at hR
          have HRF := Lib.hid (hR.trans (if_pos hc2) : R = (.zero, ⟨fc2, fa2, fp2⟩))
          have hq1 : (fc2 == 0) = false := by rw [beq_eq_false_iff_ne]; exact hc2
          have hq2 : (fc2 != 0) = true := by rw [bne_iff_ne]; exact hc2
          clear hR hin2 hc2
          go_wp2_with (first
            | (refine wpList_put_ms rfl 24 (.tmp 110) (.tmp 107) rfl 7 ⟨A2, n2, c2⟩ rfl rfl (by kernel_rfl) PA2.out.ms5 (by decide) (sq' := s) (sa' := ⟨A1, n1, c1⟩) (su' := ⟨A2, n2, c2⟩) (se' := .zero) rfl ?_; intro s2 a' o' z' g'; have PB2 := Lib.hid (PA2.out.put5 a' o' g'); have RB2 := Lib.hid (RA2.out.away fun k hk => o' k (by omega)); have RB21 := Lib.hid (RA21.out.away fun k hk => o' k (by omega)); have ltB2 : g12 < s2.heap.size := (by rw [z']; exact ltA2); clear a' o' z' g')
            | (refine wpList_store_fl rfl (.tmp 12) (.tmp 109) rfl fc2 fa2 fp2 rfl rfl PB2.out.fl12 ?_; intro t2 a' o' z' g'; have PC2 := Lib.hid (PB2.out.put12 a' o' g'); have R22 := Lib.hid (RB2.out.away fun k hk => o' k (by omega)); have R21 := Lib.hid (RB21.out.away fun k hk => o' k (by omega)); have ltC2 : g12 < t2.heap.size := (by rw [z']; exact ltB2); have e2 := fl_head a'; clear a' o' z' g' ltB2))
          clear e2 hq1 hq2
          have hS : FlBox t2.drew g12 fc2 fa2 fp2 := PC2.out.fl12
          have HM2 := Lib.hid (And.intro (And.intro PC2.out.ms2 PC2.out.fl3) (Below.drew PC2.out.be))
          obtain ⟨Z, hZ⟩ : ∃ Z, Value.agg (msv .zero .zero .zero .zero .zero) = Z := ⟨_, rfl⟩
          have HZZ := Lib.hid hZ
          clear hZ
          refine rg_begin (fun w' => FlBox w' g12 fc2 fa2 fp2) 4 (by kernel_rfl) rfl ?_
          refine rg_load 1 rfl (by kernel_rfl) (by kernel_rfl) (by kernel_rfl) (g12) (0) ((flv fc2 fa2 fp2)) (fun _ _ _ h => h) (by rfl) 36 (.tmp 12) rfl rfl hS (fun w2 h2 => (FlBox.range h2)) Tryz.underlying36 rfl (fl_size _ _ _) ?_
          simp only [Act.put, List.setIfInBounds_toArray, List.set_cons_zero, List.set_cons_succ]
          refine rg_step 0 rfl (by kernel_rfl) (by rfl) (fun K hK => ?_)
          refine wp_build_msZ Z HZZ.out rfl ?_
          refine hK.out _ _ hS ?_
          clear hK K
          try simp only [Act.put, List.setIfInBounds_toArray, List.set_cons_zero, List.set_cons_succ]
          refine rg_step 2 rfl (by kernel_rfl) (by rfl) (fun K hK => ?_)
          refine wp_store_msF (.tmp 2) (.tmp 138) rfl .zero .zero .zero .zero .zero rfl HZZ.out.symm HM2.out.1.1 ?_
          intro x4' a4 o4 g4
          replace hS : FlBox x4' g12 fc2 fa2 fp2 := FlBox.same hS (o4 _ (by omega))
          have HX4 := Lib.hid (And.intro a4 (And.intro (FlBox.same HM2.out.1.2 (o4 _ (by omega))) (g4 w.heap.size w (Nat.le_refl _) HM2.out.2)))
          clear a4 o4 g4
          refine hK.out _ _ hS ?_
          clear hK K
          simp only [Act.put]
          refine rg_step 3 rfl (by kernel_rfl) (by rfl) (fun K hK => ?_)
          refine wp_store_flF (.tmp 3) (.tmp 139) rfl (fc2) (fa2) (fp2) rfl rfl HX4.out.2.1 ?_
          intro x5' a5 o5 g5'
          replace hS : FlBox x5' g12 fc2 fa2 fp2 := FlBox.same hS (o5 _ (by omega))
          have HX5 := Lib.hid (And.intro (MsBox.same HX4.out.1 (o5 _ (by omega))) (And.intro a5 (g5' w.heap.size w (by omega) HX4.out.2.2)))
          clear a5 o5 g5'
          refine hK.out _ _ hS ?_
          clear hK K
          simp only [Act.put]
          refine rg_done (by kernel_rfl) ?_
          go_wp2_with fail
          have hRF := HRF.out
          subst hRF
          exact bodyPost_ret (results_ms_fl rfl _ rfl rfl HX5.out.1 HX5.out.2.1) rfl ⟨.zero, .zero, .zero, .zero, rfl, MsM.zero_ _, HX5.out.2.2⟩
          -->>
        · skip
          have hR := HRR.out
          rw [if_neg hc2] at hR
          replace HRR := Lib.hid hR
          clear hR
          obtain ⟨hp2, hf2⟩ := hin2 (Decidable.not_not.1 hc2)
          obtain ⟨rfl, rfl, rfl⟩ : fc2 = 0 ∧ fa2 = 0 ∧ fp2 = false := by cases hf2; exact ⟨rfl, rfl, rfl⟩
          clear hf2 hin2 hc2
          go_wp2_with (first
            | (refine wpList_put_ms rfl 24 (.tmp 110) (.tmp 107) rfl 7 ⟨A2, n2, c2⟩ rfl rfl (by kernel_rfl) PA2.out.ms5 (by decide) (sq' := s) (sa' := ⟨A1, n1, c1⟩) (su' := ⟨A2, n2, c2⟩) (se' := .zero) rfl ?_; intro s2 a' o' z' g'; have PB2 := Lib.hid (PA2.out.put5 a' o' g'); have RB2 := Lib.hid (RA2.out.away fun k hk => o' k (by omega)); have RB21 := Lib.hid (RA21.out.away fun k hk => o' k (by omega)); have ltB2 : g12 < s2.heap.size := (by rw [z']; exact ltA2); clear a' o' z' g')
            | (refine wpList_store_fl rfl (.tmp 12) (.tmp 109) rfl 0 0 false rfl rfl PB2.out.fl12 ?_; intro t2 a' o' z' g'; have PC2 := Lib.hid (PB2.out.put12 a' o' g'); have R22 := Lib.hid (RB2.out.away fun k hk => o' k (by omega)); have R21 := Lib.hid (RB21.out.away fun k hk => o' k (by omega)); have ltC2 : g12 < t2.heap.size := (by rw [z']; exact ltB2); have e2 := fl_head a'; have k3 : t2.cell? ⟨g6, 3, none⟩ = some (.int .i64 (x5 : Int)) := (PC2.out.n4.cell 3).trans (by show some (Value.int .i64 (hh 3)) = _; rw [HH.out.2.2.2]); clear a' o' z' g' ltB2))
          clear e2 k2
          have KR3 := ref_records (HB.out.later PC2.out.be (Nat.le_refl _)) hn p2 x5 (by omega) (by omega)
          have hin3 := listV_in HRD.out x5 p2 hp2
          obtain ⟨T3, hT3⟩ : ∃ T, listV (rdR l n) x5 p2 = T := ⟨_, rfl⟩
          have hR := HRR.out
          rw [hT3] at KR3 hin3 hR
          clear HRR hT3
          obtain ⟨ys3, p3, ⟨fc3, fa3, fp3⟩⟩ := T3
          dsimp only at KR3 hin3 hR
          have HRR := Lib.hid hR
          clear hR
          have KR3 := Lib.hid KR3
          refine KR3.out.mono ?_
          clear KR3
          rintro e u3 ⟨A3, n3, c3, rfl, q3, b3⟩
          have PA3 := Lib.hid (PC2.out.later b3)
          have ltA3 := Nat.lt_of_lt_of_le ltC2 b3.size
          have RA3 := Lib.hid (q3.low (lo' := g12 + 1) ltC2)
          have RA31 := Lib.hid (R21.out.later b3 (Nat.le_refl _))
          have RA32 := Lib.hid (R22.out.later b3 (Nat.le_refl _))
          clear b3 q3 ltC2
          by_cases hc3 : fc3 ≠ 0
          · skip
            --<< bad3
            have hR := HRR.out
            rw [if_pos hc3] at hR
            have HRF := Lib.hid (hR.trans (if_pos hc3) : R = (.zero, ⟨fc3, fa3, fp3⟩))
            have hq1 : (fc3 == 0) = false := by rw [beq_eq_false_iff_ne]; exact hc3
            have hq2 : (fc3 != 0) = true := by rw [bne_iff_ne]; exact hc3
            clear hR hin3 hc3
            go_wp2_with (first
              | (refine wpList_put_ms rfl 24 (.tmp 123) (.tmp 120) rfl 8 ⟨A3, n3, c3⟩ rfl rfl (by kernel_rfl) PA3.out.ms5 (by decide) (sq' := s) (sa' := ⟨A1, n1, c1⟩) (su' := ⟨A2, n2, c2⟩) (se' := ⟨A3, n3, c3⟩) rfl ?_; intro s3 a' o' z' g'; have PB3 := Lib.hid (PA3.out.put5 a' o' g'); have RB3 := Lib.hid (RA3.out.away fun k hk => o' k (by omega)); have RB31 := Lib.hid (RA31.out.away fun k hk => o' k (by omega)); have RB32 := Lib.hid (RA32.out.away fun k hk => o' k (by omega)); have ltB3 : g12 < s3.heap.size := (by rw [z']; exact ltA3); clear a' o' z' g')
              | (refine wpList_store_fl rfl (.tmp 12) (.tmp 122) rfl fc3 fa3 fp3 rfl rfl PB3.out.fl12 ?_; intro t3 a' o' z' g'; have PC3 := Lib.hid (PB3.out.put12 a' o' g'); have R33 := Lib.hid (RB3.out.away fun k hk => o' k (by omega)); have R31 := Lib.hid (RB31.out.away fun k hk => o' k (by omega)); have R32 := Lib.hid (RB32.out.away fun k hk => o' k (by omega)); have ltC3 : g12 < t3.heap.size := (by rw [z']; exact ltB3); have e3 := fl_head a'; clear a' o' z' g' ltB3))
            clear e3 hq1 hq2
            have hS : FlBox t3.drew g12 fc3 fa3 fp3 := PC3.out.fl12
            have HM2 := Lib.hid (And.intro (And.intro PC3.out.ms2 PC3.out.fl3) (Below.drew PC3.out.be))
            obtain ⟨Z, hZ⟩ : ∃ Z, Value.agg (msv .zero .zero .zero .zero .zero) = Z := ⟨_, rfl⟩
            have HZZ := Lib.hid hZ
            clear hZ
            refine rg_begin (fun w' => FlBox w' g12 fc3 fa3 fp3) 4 (by kernel_rfl) rfl ?_
            refine rg_load 1 rfl (by kernel_rfl) (by kernel_rfl) (by kernel_rfl) (g12) (0) ((flv fc3 fa3 fp3)) (fun _ _ _ h => h) (by rfl) 36 (.tmp 12) rfl rfl hS (fun w2 h2 => (FlBox.range h2)) Tryz.underlying36 rfl (fl_size _ _ _) ?_
            simp only [Act.put, List.setIfInBounds_toArray, List.set_cons_zero, List.set_cons_succ]
            refine rg_step 0 rfl (by kernel_rfl) (by rfl) (fun K hK => ?_)
            refine wp_build_msZ Z HZZ.out rfl ?_
            refine hK.out _ _ hS ?_
            clear hK K
            try simp only [Act.put, List.setIfInBounds_toArray, List.set_cons_zero, List.set_cons_succ]
            refine rg_step 2 rfl (by kernel_rfl) (by rfl) (fun K hK => ?_)
            refine wp_store_msF (.tmp 2) (.tmp 138) rfl .zero .zero .zero .zero .zero rfl HZZ.out.symm HM2.out.1.1 ?_
            intro x4' a4 o4 g4
            replace hS : FlBox x4' g12 fc3 fa3 fp3 := FlBox.same hS (o4 _ (by omega))
            have HX4 := Lib.hid (And.intro a4 (And.intro (FlBox.same HM2.out.1.2 (o4 _ (by omega))) (g4 w.heap.size w (Nat.le_refl _) HM2.out.2)))
            clear a4 o4 g4
            refine hK.out _ _ hS ?_
            clear hK K
            simp only [Act.put]
            refine rg_step 3 rfl (by kernel_rfl) (by rfl) (fun K hK => ?_)
            refine wp_store_flF (.tmp 3) (.tmp 139) rfl (fc3) (fa3) (fp3) rfl rfl HX4.out.2.1 ?_
            intro x5' a5 o5 g5'
            replace hS : FlBox x5' g12 fc3 fa3 fp3 := FlBox.same hS (o5 _ (by omega))
            have HX5 := Lib.hid (And.intro (MsBox.same HX4.out.1 (o5 _ (by omega))) (And.intro a5 (g5' w.heap.size w (by omega) HX4.out.2.2)))
            clear a5 o5 g5'
            refine hK.out _ _ hS ?_
            clear hK K
            simp only [Act.put]
            refine rg_done (by kernel_rfl) ?_
            go_wp2_with fail
            have hRF := HRF.out
            subst hRF
            exact bodyPost_ret (results_ms_fl rfl _ rfl rfl HX5.out.1 HX5.out.2.1) rfl ⟨.zero, .zero, .zero, .zero, rfl, MsM.zero_ _, HX5.out.2.2⟩
            -->>
          · skip
            have hR := HRR.out
            rw [if_neg hc3] at hR
            replace HRR := Lib.hid hR
            clear hR
            obtain ⟨hp3, hf3⟩ := hin3 (Decidable.not_not.1 hc3)
            obtain ⟨rfl, rfl, rfl⟩ : fc3 = 0 ∧ fa3 = 0 ∧ fp3 = false := by cases hf3; exact ⟨rfl, rfl, rfl⟩
            clear hf3 hin3 hc3
            by_cases hl : p3 < n
            · skip
              --<< long
              have hpw : ∀ m, parseW n ⟨m, p3, fl0⟩ = (.zero, ⟨7, p3, true⟩) := fun m => by
                unfold parseW
                rw [if_neg (fun h => h rfl), if_pos (by show p3 ≠ n; omega)]
              have HRF := Lib.hid (HRR.out.trans (hpw _))
              clear hpw
              go_wp2_with (first
                | (refine wpList_put_ms rfl 24 (.tmp 123) (.tmp 120) rfl 8 ⟨A3, n3, c3⟩ rfl rfl (by kernel_rfl) PA3.out.ms5 (by decide) (sq' := s) (sa' := ⟨A1, n1, c1⟩) (su' := ⟨A2, n2, c2⟩) (se' := ⟨A3, n3, c3⟩) rfl ?_; intro s3 a' o' z' g'; have PB3 := Lib.hid (PA3.out.put5 a' o' g'); have RB3 := Lib.hid (RA3.out.away fun k hk => o' k (by omega)); have RB31 := Lib.hid (RA31.out.away fun k hk => o' k (by omega)); have RB32 := Lib.hid (RA32.out.away fun k hk => o' k (by omega)); have ltB3 : g12 < s3.heap.size := (by rw [z']; exact ltA3); clear a' o' z' g')
                | (refine wpList_store_fl rfl (.tmp 12) (.tmp 122) rfl 0 0 false rfl rfl PB3.out.fl12 ?_; intro t3 a' o' z' g'; have PC3 := Lib.hid (PB3.out.put12 a' o' g'); have R33 := Lib.hid (RB3.out.away fun k hk => o' k (by omega)); have R31 := Lib.hid (RB31.out.away fun k hk => o' k (by omega)); have R32 := Lib.hid (RB32.out.away fun k hk => o' k (by omega)); have ltC3 : g12 < t3.heap.size := (by rw [z']; exact ltB3); have e3 := fl_head a'; clear a' o' z' g' ltB3))
              refine (help_at 7 (p3 : Int) _).mono ?_
              rintro e u4 ⟨rfl, b4⟩
              have PD := Lib.hid (PC3.out.later b4)
              clear b4 e3
              go_wp2_with (refine wpList_store_fl rfl (.tmp 12) (.tmp 134) rfl 7 p3 true rfl rfl PD.out.fl12 ?_; intro t4 a' o' z' g'; have PE := Lib.hid (PD.out.put12 a' o' g'); have e4 := fl_head a'; clear a' o' z' g')
              clear e4
              have hS : FlBox t4.drew g12 7 (p3:Int) true := PE.out.fl12
              have HM2 := Lib.hid (And.intro (And.intro PE.out.ms2 PE.out.fl3) (Below.drew PE.out.be))
              obtain ⟨Z, hZ⟩ : ∃ Z, Value.agg (msv .zero .zero .zero .zero .zero) = Z := ⟨_, rfl⟩
              have HZZ := Lib.hid hZ
              clear hZ
              refine rg_begin (fun w' => FlBox w' g12 7 (p3:Int) true) 4 (by kernel_rfl) rfl ?_
              refine rg_load 1 rfl (by kernel_rfl) (by kernel_rfl) (by kernel_rfl) (g12) (0) ((flv 7 (p3:Int) true)) (fun _ _ _ h => h) (by rfl) 36 (.tmp 12) rfl rfl hS (fun w2 h2 => (FlBox.range h2)) Tryz.underlying36 rfl (fl_size _ _ _) ?_
              simp only [Act.put, List.setIfInBounds_toArray, List.set_cons_zero, List.set_cons_succ]
              refine rg_step 0 rfl (by kernel_rfl) (by rfl) (fun K hK => ?_)
              refine wp_build_msZ Z HZZ.out rfl ?_
              refine hK.out _ _ hS ?_
              clear hK K
              try simp only [Act.put, List.setIfInBounds_toArray, List.set_cons_zero, List.set_cons_succ]
              refine rg_step 2 rfl (by kernel_rfl) (by rfl) (fun K hK => ?_)
              refine wp_store_msF (.tmp 2) (.tmp 138) rfl .zero .zero .zero .zero .zero rfl HZZ.out.symm HM2.out.1.1 ?_
              intro x4' a4 o4 g4
              replace hS : FlBox x4' g12 7 (p3:Int) true := FlBox.same hS (o4 _ (by omega))
              have HX4 := Lib.hid (And.intro a4 (And.intro (FlBox.same HM2.out.1.2 (o4 _ (by omega))) (g4 w.heap.size w (Nat.le_refl _) HM2.out.2)))
              clear a4 o4 g4
              refine hK.out _ _ hS ?_
              clear hK K
              simp only [Act.put]
              refine rg_step 3 rfl (by kernel_rfl) (by rfl) (fun K hK => ?_)
              refine wp_store_flF (.tmp 3) (.tmp 139) rfl (7) ((p3:Int)) (true) rfl rfl HX4.out.2.1 ?_
              intro x5' a5 o5 g5'
              replace hS : FlBox x5' g12 7 (p3:Int) true := FlBox.same hS (o5 _ (by omega))
              have HX5 := Lib.hid (And.intro (MsBox.same HX4.out.1 (o5 _ (by omega))) (And.intro a5 (g5' w.heap.size w (by omega) HX4.out.2.2)))
              clear a5 o5 g5'
              refine hK.out _ _ hS ?_
              clear hK K
              simp only [Act.put]
              refine rg_done (by kernel_rfl) ?_
              go_wp2_with fail
              have hRF := HRF.out
              subst hRF
              exact bodyPost_ret (results_ms_fl rfl _ rfl rfl HX5.out.1 HX5.out.2.1) rfl ⟨.zero, .zero, .zero, .zero, rfl, MsM.zero_ _, HX5.out.2.2⟩
              -->>
            · skip
              --<< fine
              have hpn : p3 = n := by omega
              have hpw : ∀ m, parseW n ⟨m, p3, fl0⟩ = (m, fl0) := fun m => by
                unfold parseW
                rw [if_neg (fun h => h rfl), if_neg (fun h => h hpn)]
              have HRF := Lib.hid (HRR.out.trans (hpw _))
              clear hpw hpn
              go_wp2_with (first
                | (refine wpList_put_ms rfl 24 (.tmp 123) (.tmp 120) rfl 8 ⟨A3, n3, c3⟩ rfl rfl (by kernel_rfl) PA3.out.ms5 (by decide) (sq' := s) (sa' := ⟨A1, n1, c1⟩) (su' := ⟨A2, n2, c2⟩) (se' := ⟨A3, n3, c3⟩) rfl ?_; intro s3 a' o' z' g'; have PB3 := Lib.hid (PA3.out.put5 a' o' g'); have RB3 := Lib.hid (RA3.out.away fun k hk => o' k (by omega)); have RB31 := Lib.hid (RA31.out.away fun k hk => o' k (by omega)); have RB32 := Lib.hid (RA32.out.away fun k hk => o' k (by omega)); have ltB3 : g12 < s3.heap.size := (by rw [z']; exact ltA3); clear a' o' z' g')
                | (refine wpList_store_fl rfl (.tmp 12) (.tmp 122) rfl 0 0 false rfl rfl PB3.out.fl12 ?_; intro t3 a' o' z' g'; have PC3 := Lib.hid (PB3.out.put12 a' o' g'); have R33 := Lib.hid (RB3.out.away fun k hk => o' k (by omega)); have R31 := Lib.hid (RB31.out.away fun k hk => o' k (by omega)); have R32 := Lib.hid (RB32.out.away fun k hk => o' k (by omega)); have ltC3 : g12 < t3.heap.size := (by rw [z']; exact ltB3); have e3 := fl_head a'; clear a' o' z' g' ltB3))
              clear e3
              have P9 := Lib.hid (PC3.out.later (Below.refl _ t3).drew)
              have hR1 := R31.out.later (Below.refl _ t3).drew (Nat.le_refl _)
              have hR2 := R32.out.later (Below.refl _ t3).drew (Nat.le_refl _)
              have hR3 := R33.out.later (Below.refl _ t3).drew (Nat.le_refl _)
              have hlt9 := P9.out.lt
              obtain ⟨X, hX⟩ : ∃ X, msv (begunV x0 x1) s ⟨A1, n1, c1⟩ ⟨A2, n2, c2⟩ ⟨A3, n3, c3⟩ = X := ⟨_, rfl⟩
              have hXs : (Tryz.prog.info? 26).map (·.size) = some X.size := by rw [← hX]; exact ms_size _ _ _ _ _
              have HXX := Lib.hid hX
              have hS : World.rangeAt t3.drew g5 0 X.toList ∧ FlBox t3.drew g12 0 0 false := by rw [← hX]; exact ⟨P9.out.ms5.range, P9.out.fl12⟩
              have HXs := Lib.hid hXs
              clear hX hXs
              refine rg_begin (fun w' => World.rangeAt w' g5 0 X.toList ∧ FlBox w' g12 0 0 false) 4 (by kernel_rfl) rfl ?_
              refine rg_load 0 rfl (by kernel_rfl) (by kernel_rfl) (by kernel_rfl) (g5) (0) (X) (fun _ _ _ h => h) (by rfl) 26 (.tmp 5) rfl rfl hS (fun w2 h2 => h2.1) Tryz.underlying26 rfl (HXs.out) ?_
              simp only [Act.put, List.setIfInBounds_toArray, List.set_cons_zero, List.set_cons_succ]
              refine rg_load 1 rfl (by kernel_rfl) (by kernel_rfl) (by kernel_rfl) (g12) (0) ((flv 0 0 false)) (fun _ _ _ h => h) (by rfl) 36 (.tmp 12) rfl rfl hS (fun w2 h2 => (FlBox.range h2.2)) Tryz.underlying36 rfl (fl_size _ _ _) ?_
              simp only [Act.put, List.setIfInBounds_toArray, List.set_cons_zero, List.set_cons_succ]
              refine rg_step 2 rfl (by kernel_rfl) (by rfl) (fun K hK => ?_)
              refine wp_store_msF (.tmp 2) (.tmp 140) rfl (begunV x0 x1) s ⟨A1, n1, c1⟩ ⟨A2, n2, c2⟩ ⟨A3, n3, c3⟩ rfl (by rw [HXX.out]; rfl) P9.out.ms2 ?_
              intro x4' a4 o4 g4
              replace hS : World.rangeAt x4' g5 0 X.toList ∧ FlBox x4' g12 0 0 false := ⟨fun jj u hj => (World.cell?_of_block (a := ⟨g5, 0 + jj, none⟩) (o4 g5 (by omega))).trans (hS.1 jj u hj), FlBox.same hS.2 (o4 _ (by omega))⟩
              have HX4 := Lib.hid (And.intro a4 (And.intro (FlBox.same P9.out.fl3 (o4 _ (by omega))) (g4 w.heap.size w (Nat.le_refl _) P9.out.be)))
              have hq4 := own_moved P9.out.qo (fun b hb => o4 b (by have := (World.ownsRow.lt P9.out.qo b hb).1; omega))
              replace hR1 := hR1.away fun k hk => o4 k (by omega)
              replace hR2 := hR2.away fun k hk => o4 k (by omega)
              replace hR3 := hR3.away fun k hk => o4 k (by omega)
              clear a4 o4 g4
              refine hK.out _ _ hS ?_
              clear hK K
              simp only [Act.put]
              refine rg_step 3 rfl (by kernel_rfl) (by rfl) (fun K hK => ?_)
              refine wp_store_flF (.tmp 3) (.tmp 141) rfl 0 0 false rfl rfl HX4.out.2.1 ?_
              intro x5' a5 o5 g5'
              replace hS : World.rangeAt x5' g5 0 X.toList ∧ FlBox x5' g12 0 0 false := ⟨fun jj u hj => (World.cell?_of_block (a := ⟨g5, 0 + jj, none⟩) (o5 g5 (by omega))).trans (hS.1 jj u hj), FlBox.same hS.2 (o5 _ (by omega))⟩
              have HX5 := Lib.hid (And.intro (MsBox.same HX4.out.1 (o5 _ (by omega))) (And.intro a5 (g5' w.heap.size w (by omega) HX4.out.2.2)))
              have hq5 := own_moved hq4 (fun b hb => o5 b (by have := (World.ownsRow.lt hq4 b hb).1; omega))
              have HR5 := Lib.hid (And.intro hq5 (And.intro (hR1.away fun k hk => o5 k (by omega)) (And.intro (hR2.away fun k hk => o5 k (by omega)) (hR3.away fun k hk => o5 k (by omega)))))
              clear a5 o5 g5' hq4 hq5 hR1 hR2 hR3
              refine hK.out _ _ hS ?_
              clear hK K
              simp only [Act.put]
              refine rg_done (by kernel_rfl) ?_
              go_wp2_with fail
              have hRF := HRF.out
              subst hRF
              refine bodyPost_ret (results_ms_fl rfl _ rfl rfl HX5.out.1 HX5.out.2.1) rfl ⟨s, ⟨A1, n1, c1⟩, ⟨A2, n2, c2⟩, ⟨A3, n3, c3⟩, rfl, ⟨?_, HR5.out.2.1.low (Nat.zero_le _), HR5.out.2.2.1.low (Nat.zero_le _), HR5.out.2.2.2.low (Nat.zero_le _)⟩, HX5.out.2.2⟩
              obtain ⟨A', c', e, hs⟩ := QsS.of_own HR5.out.1
              injection e with y1 y2 y3
              have hs2 : QsS wb x5' s.A s.n s.c xs := by rw [y1, y2, y3]; exact hs
              exact hs2.low (Nat.zero_le _)
              -->>
end Go.Proofs.YtbikifaadpijnaaGreatDoor
