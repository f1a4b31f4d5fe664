/-
  Package expiry's Queue: Next, At, Due. Conditions: those of the queue.
-/
import Derived.Test.YtdpmjbhkmfjpfaaDoorQo17
namespace Go.Proofs.YtdpmjbhkmfjpfaaDoor
open Go.RowKit
set_option maxRecDepth 100000

/-- What is next, as it is told. -/
def nextR : Option En → Value
  | some e => .tuple #[.agg #[.int .i64 e.id, .int .u64 e.at_], .bool true]
  | none => .tuple #[.agg #[.int .i64 0, .int .u64 0], .bool false]
def atR : Option Int → Value
  | some t => .tuple #[.int .u64 t, .bool true]
  | none => .tuple #[.int .u64 0, .bool false]
theorem results_en_tmp {fn : Func} {p u : Tmp} (h : fn.results = #[.cell p 45, .tmp u]) (tmps : Array Value) {w : World} {g : Nat} {i t : Int} (hp : tmps.getD p undef = .pointer (some ⟨g, 0, none⟩)) (hA : w.heap[g]? = some (.cells #[.int .i64 i, .int .u64 t] 45 (0, 0))) :
    (results fn tmps).run Tryd.prog w = .ok (.tuple #[.agg #[.int .i64 i, .int .u64 t], tmps.getD u undef]) w := by
  rw [results_cell_tmp h, hp]
  simp [asAddr, run_loadVar_row w g 45 45 #[.int .i64 i, .int .u64 t] (0, 0) _ hA Tryd.underlying45 rfl (by kernel_rfl)]
theorem en_box_set {w w' : World} {g : Nat} {B : Nat} {w0 : World} {cs cs' : Array Value} (h : w.heap[g]? = some (.cells cs 45 (0, 0))) (hb : Below B w0 w) (hB : B ≤ g) (hw : w.setRow g cs' = w') : w'.heap[g]? = some (.cells cs' 45 (0, 0)) ∧ Below B w0 w' := by
  subst hw
  exact ⟨setRow_heap w g _ _ _ _ h, below_setRow hb hB _⟩
--<< next
set_option maxHeartbeats 1000000 in
theorem next_none (p : Option Addr) (w : World) (hp : Calls Tryd.prog 21 #[.pointer p] (w.alloc (.cells #[.int .i64 0, .int .u64 0] 45)) fun e w' => e = .returned (.int .i64 0) ∧ (w.alloc (.cells #[.int .i64 0, .int .u64 0] 45)) = w') :
    Calls Tryd.prog 18 #[.pointer p] w fun e w' => e = .returned (nextR none) ∧ Below w.heap.size w w' := by
  have hb1 : Below w.heap.size w (w.alloc (.cells #[.int .i64 0, .int .u64 0] 45)) := (Below.refl _ _).alloc (Nat.le_refl _) _
  have hg1 : (w.alloc (.cells #[.int .i64 0, .int .u64 0] 45)).heap[w.heap.size]? = some (.cells #[.int .i64 0, .int .u64 0] 45 (0, 0)) := heap_alloc_new w _
  have HC := Lib.hid (And.intro hb1 (And.intro hg1 hp))
  clear hb1 hg1 hp
  go_enter Tryd.func18, Tryd.ntmps18
  go_wp2_with (refine HC.out.2.2.mono ?_; rintro e w1 ⟨rfl, rfl⟩)
  have h1 := heap_alloc_new w (.cells #[.int .i64 0, .int .u64 0] 45)
  have h2 : Below w.heap.size w (w.alloc (.cells #[.int .i64 0, .int .u64 0] 45)) := (Below.refl _ _).alloc (Nat.le_refl _) _
  exact bodyPost_ret (results_en_tmp (i := 0) (t := 0) Tryd.results18 _ rfl h1) rfl ⟨rfl, h2⟩
theorem next_nil (w : World) : Calls Tryd.prog 18 #[.pointer none] w fun e w' => e = .returned (nextR none) ∧ Below w.heap.size w w' := next_none none w (len_nil _)
set_option maxHeartbeats 1000000 in
theorem next_any {w : World} {g : Nat} {ob : Option Nat} {room : Int} {xs : List En} (h : Qu w g ob room xs) : Calls Tryd.prog 18 #[.pointer (some ⟨g, 0, none⟩)] w fun e w' => e = .returned (nextR (nextV xs)) ∧ Below w.heap.size w w' := by
  have hb1 : Below w.heap.size w (w.alloc (.cells #[.int .i64 0, .int .u64 0] 45)) := (Below.refl _ _).alloc (Nat.le_refl _) _
  have hl := len_any (h.later hb1 (Nat.le_refl _))
  match xs, h, hl with
  | [], h, hl => exact next_none _ w hl
  | x :: xs, h, hl =>
    rw [sorted_next h.sorted]
    have hg1 : (w.alloc (.cells #[.int .i64 0, .int .u64 0] 45)).heap[w.heap.size]? = some (.cells #[.int .i64 0, .int .u64 0] 45 (0, 0)) := heap_alloc_new w _
    obtain ⟨A, c, q0, q1, hs, _⟩ := (h.later hb1 (Nat.le_refl _)).open_
    obtain ⟨b, off, rfl, r1, r2⟩ := hs.here 0 x rfl
    simp only [Nat.zero_mul, Nat.add_zero] at r1 r2
    obtain ⟨n, hn⟩ : ∃ n, n = (x :: xs).length := ⟨_, rfl⟩
    have hn0 : (0 : Int) < (n : Int) := by rw [hn, List.length_cons]; omega
    have hn1 : ¬ ((n : Int) = 0) := by omega
    rw [← hn] at hl q1
    obtain ⟨xi, xt⟩ := x
    dsimp only at r1 r2
    have HC := Lib.hid (And.intro hb1 (And.intro hg1 hl))
    clear hb1 hg1 hl hs h hn q0
    unfold nextR
    dsimp only
    go_enter Tryd.func18, Tryd.ntmps18
    go_wp2_with (refine HC.out.2.2.mono ?_; rintro e w1 ⟨rfl, rfl⟩)
    have h1 := heap_alloc_new w (.cells #[.int .i64 xi, .int .u64 xt] 45)
    have h2 : Below w.heap.size w (w.alloc (.cells #[.int .i64 xi, .int .u64 xt] 45)) := (Below.refl _ _).alloc (Nat.le_refl _) _
    exact bodyPost_ret (results_en_tmp (i := xi) (t := xt) Tryd.results18 _ rfl h1) rfl ⟨rfl, h2⟩
-->>
--<< at
set_option maxHeartbeats 1000000 in
theorem at_nil (id : Int) (w : World) : Calls Tryd.prog 20 #[.pointer none, .int .i64 id] w fun e w' => e = .returned (atR none) ∧ Below w.heap.size w w' := by
  have K := Lib.hid (find_nil id w)
  unfold refV at K
  go_enter Tryd.func20, Tryd.ntmps20
  go_wp2_with fail
  refine K.out.mono ?_
  rintro e w1 ⟨rfl, hb⟩
  have HB := Lib.hid hb
  clear hb
  go_wp2_with fail
  exact bodyPost_ret (v := .tuple #[.int .u64 0, .bool false]) (by simp [results, Tryd.results20, go_sem]) rfl ⟨rfl, HB.out⟩
set_option maxHeartbeats 1000000 in
theorem at_any {w : World} {g : Nat} {ob : Option Nat} {room : Int} {xs : List En} (h : Qu w g ob room xs) (id : Int) : Calls Tryd.prog 20 #[.pointer (some ⟨g, 0, none⟩), .int .i64 id] w fun e w' => e = .returned (atR (atV xs id)) ∧ Below w.heap.size w w' := by
  have K := Lib.hid (find_any h id)
  have HH := Lib.hid h
  clear h
  go_enter Tryd.func20, Tryd.ntmps20
  go_wp2_with fail
  refine K.out.mono ?_
  rintro e w1 ⟨⟨hv, rfl⟩ | ⟨k, x, hv, hk, hx, rfl⟩, hb⟩
  · have HV := Lib.hid hv
    have HB := Lib.hid hb
    clear hv hb
    unfold refV
    go_wp2_with fail
    exact bodyPost_ret (v := .tuple #[.int .u64 0, .bool false]) (by simp [results, Tryd.results20, go_sem]) rfl ⟨by rw [atV_none HV.out]; rfl, HB.out⟩
  · subst hx
    obtain ⟨A, c, q0, q1, hs, _⟩ := (HH.out.later hb (Nat.le_refl _)).open_
    obtain ⟨b, off, rfl, r1, r2⟩ := hs.here k x hk
    have hkl : (k : Int) < (xs.length : Int) := by have := (List.getElem?_eq_some_iff.1 hk).1; omega
    have HV := Lib.hid (atV_of HH.out.uniq (List.mem_of_getElem? hk))
    have HB := Lib.hid hb
    clear hv hb hs hk
    obtain ⟨xi, xt⟩ := x
    dsimp only at *
    go_wp2_with fail
    exact bodyPost_ret (v := .tuple #[.int .u64 xt, .bool true]) (by simp [results, Tryd.results20, go_sem]) rfl ⟨by rw [HV.out]; rfl, HB.out⟩
-->>
--<< due
theorem EnS.first {w : World} {A : Option Addr} {n c : Nat} {xs : List En} (h : EnS w A n c xs) {i : Nat} (hi : i ≤ n) : EnS w A i c (xs.take i) :=
  ⟨by rw [List.length_take, h.len]; omega, Nat.le_trans hi h.cap, h.max, h.none_, fun k e he => h.here k e (by
    rw [List.getElem?_take] at he
    split at he
    · exact he
    · cases he)⟩
theorem due_nil (now : Int) (w : World) : Calls Tryd.prog 14 #[.pointer none, .int .u64 now] w fun e w' => e = .returned (.slice none 0 0) ∧ Below w.heap.size w w' := by
  have hb : Below w.heap.size w ((w.alloc (.cells #[.pointer none] 23)).alloc (.cells #[.int .u64 now] 30)) := ((Below.refl _ w).alloc (Nat.le_refl _) _).alloc (by simp) _
  have K1 := Lib.hid fun w => len_nil w
  have K2 := Lib.hid fun f w => search_zero f w
  have HB := Lib.hid hb
  clear hb
  go_enter Tryd.func14, Tryd.ntmps14
  go_wp2_with (first | (go_at_call 21; refine (K1.out _).mono ?_; rintro e w1 ⟨rfl, rfl⟩) | (go_at_call 31; refine (K2.out _ _).mono ?_; rintro e w1 ⟨rfl, rfl⟩))
  go_ret
  exact ⟨rfl, HB.out⟩
set_option maxHeartbeats 4000000 in
theorem due_any {w : World} {g : Nat} {ob : Option Nat} {room : Int} {xs : List En} (h : Qu w g ob room xs) (hbig : xs.length ≤ 1000000) (now : Int) : Calls Tryd.prog 14 #[.pointer (some ⟨g, 0, none⟩), .int .u64 now] w fun e w' =>
    ∃ v', e = .returned v' ∧ Qu w' g ob room (dueL now xs).2 ∧ EO w' v' (dueL now xs).1 ∧ Fresh none v'.ownBlock w.heap.size ∧ Mv g ob w w' := by
  have hlg := h.lt
  obtain ⟨W, hW⟩ : ∃ W, (w.alloc (.cells #[.pointer (some ⟨g, 0, none⟩)] 23)).alloc (.cells #[.int .u64 now] 30) = W := ⟨_, rfl⟩
  have b1 : Below w.heap.size w W := hW ▸ ((Below.refl _ w).alloc (Nat.le_refl _) _).alloc (by simp) _
  have c0 : W.cell? ⟨w.heap.size, 0, none⟩ = some (.pointer (some ⟨g, 0, none⟩)) := by rw [← hW, World.cell?_alloc_lt _ _ ⟨w.heap.size, 0, none⟩ (by simp), World.cell?_alloc_at _ _ _ _ rfl]; rfl
  have c1 : W.cell? ⟨w.heap.size + 1, 0, none⟩ = some (.int .u64 now) := by rw [← hW, World.cell?_alloc_at _ _ _ _ (by simp)]; rfl
  have hq := h.later b1 (Nat.le_refl _)
  obtain ⟨A, c, q0, q1, hs, hEO, hob, hA, hg⟩ := hq.open_
  have K1 := Lib.hid (len_any hq)
  have K2 := Lib.hid (search_any (w := W) (bq := w.heap.size) (bn := w.heap.size + 1) (g := g) ⟨c0, c1, q1, hs⟩ h.sorted)
  have HH := Lib.hid (And.intro h (And.intro b1 (And.intro c0 (And.intro q1 (And.intro hs (And.intro hEO hob))))))
  have hlW : w.heap.size < W.heap.size := lt_of_cell' c0
  have HW := Lib.hid hW
  clear hW hq c1 q0 hs hEO hob hg b1 h
  go_enter Tryd.func14, Tryd.ntmps14
  go_wp2_with (first | (rw [HW.out]) | (go_at_call 21; refine K1.out.mono ?_; rintro e w1 ⟨rfl, rfl⟩))
  refine K2.out.mono ?_
  rintro e w1 ⟨i, rfl, hp, hb⟩
  have HP := Lib.hid hp
  have HB := Lib.hid hb
  have e0 : w1.cell? ⟨w.heap.size, 0, none⟩ = some (.pointer (some ⟨g, 0, none⟩)) := (hb.cell (p := ⟨w.heap.size, 0, none⟩) hlW).trans c0
  have e1 : w1.cell? ⟨g, 1, none⟩ = some (.slice A xs.length c) := (hb.cell (p := ⟨g, 1, none⟩) (Nat.lt_trans hlg hlW)).trans q1
  clear hp hb c0 q1 K2 K1 HW
  have hin : i ≤ xs.length := HP.out.1
  by_cases hi0 : i = 0
  · subst hi0
    go_wp2_with fail
    go_ret
    have hd := due_parts HH.out.1.sorted HP.out
    rw [List.take_zero, List.drop_zero] at hd
    refine ⟨_, rfl, ?_, ?_, .inl rfl, Mv.of_below (HH.out.2.1.trans (HB.out.mono HH.out.2.1.size))⟩
    · rw [hd]
      exact HH.out.1.later (HH.out.2.1.trans (HB.out.mono HH.out.2.1.size)) (Nat.le_refl _)
    · rw [hd]
      exact EO.nil _
  · rcases hA with rfl | ⟨b, rfl⟩
    · have hc0 := HH.out.2.2.2.2.1.none_ rfl
      have hc1 := HH.out.2.2.2.2.1.cap
      exact absurd (show i = 0 by omega) hi0
    have hs1 := (HH.out.2.2.2.2.1.later HB.out (Nat.le_refl _)).first hin
    have hic : i ≤ c := hs1.cap
    have hcm := hs1.max
    have KC := Lib.hid (clone_any hs1 (by omega) (by omega))
    clear hs1
    unfold maxLen at hcm
    have hi1 : ¬ ((i : Int) = 0) := by omega
    have hin' : (i : Int) ≤ (xs.length : Int) := by omega
    go_wp2_with (refine KC.out.mono ?_; rintro e w2 ⟨v', rfl, hEv, ⟨gv, hgv1, hgv2⟩, hb2⟩)
    have f0 : w2.drew.cell? ⟨w.heap.size, 0, none⟩ = some (.pointer (some ⟨g, 0, none⟩)) := (hb2.cell (p := ⟨w.heap.size, 0, none⟩) (lt_of_cell' e0)).trans e0
    have f1 : w2.drew.cell? ⟨g, 1, none⟩ = some (.slice (some ⟨b, 0, none⟩) xs.length c) := (hb2.cell (p := ⟨g, 1, none⟩) (lt_of_cell' e1)).trans e1
    have hBW : Below w.heap.size w w2.drew := below_of_drew (HH.out.2.1.trans ((HB.out.trans (hb2.mono HB.out.size)).mono HH.out.2.1.size))
    have hob : ob = some b := HH.out.2.2.2.2.2.2.symm
    have hltb : b < w.heap.size := HH.out.1.lto hob
    have hEO2 := HH.out.2.2.2.2.2.1.kept (w' := w2.drew) fun b' hb' => by
      cases hb'
      exact (hb2.block b (Nat.lt_of_lt_of_le hltb (Nat.le_trans HH.out.2.1.size HB.out.size))).trans (HB.out.block b (Nat.lt_of_lt_of_le hltb HH.out.2.1.size))
    have hvw : w.heap.size ≤ gv := Nat.le_trans (Nat.le_trans HH.out.2.1.size HB.out.size) hgv2
    have hEv' : EO w2.drew v' (xs.take i) := hEv
    have HV := Lib.hid (And.intro hEv' (And.intro hgv1 (And.intro hvw (And.intro hBW (And.intro hob (And.intro hltb hEO2))))))
    clear hEv hEv' hgv1 hgv2 hb2 hBW hob hEO2 e0 e1
    have hS : w2.drew.cell? ⟨w.heap.size, 0, none⟩ = some (.pointer (some ⟨g, 0, none⟩)) := f0
    go_wp2_with fail
    refine rg_begin (fun w' => w'.cell? ⟨w.heap.size, 0, none⟩ = some (.pointer (some ⟨g, 0, none⟩))) 10 (by kernel_rfl) rfl ?_
    obtain ⟨W3, hW3⟩ : ∃ W3, w2.drew = W3 := ⟨_, rfl⟩
    rw [hW3] at hS f1 HV ⊢
    clear hW3 f0
    refine rg_take 0 (v := ?rv1) rfl (by kernel_rfl) (by kernel_rfl) (by kernel_rfl) (fun _ _ _ h => h) (by rfl) hS (fun w2 hw2 => ?ry1) ?rr1
    case ry1 => ((try dsimp only at hw2); go_simp <;> with_reducible rfl)
    simp only [Act.put, List.setIfInBounds_toArray, List.set_cons_zero, List.set_cons_succ]
    refine rg_take 1 (v := ?rv2) rfl (by kernel_rfl) (by kernel_rfl) (by kernel_rfl) (fun _ _ _ h => h) (by rfl) hS (fun w2 hw2 => ?ry2) ?rr2
    case ry2 => ((try dsimp only at hw2); go_simp <;> with_reducible rfl)
    simp only [Act.put, List.setIfInBounds_toArray, List.set_cons_zero, List.set_cons_succ]
    refine rg_take 5 (v := ?rv3) rfl (by kernel_rfl) (by kernel_rfl) (by kernel_rfl) (fun _ _ _ h => h) (by rfl) hS (fun w2 hw2 => ?ry3) ?rr3
    case ry3 => ((try dsimp only at hw2); go_simp <;> with_reducible rfl)
    simp only [Act.put, List.setIfInBounds_toArray, List.set_cons_zero, List.set_cons_succ]
    refine rg_take 2 (v := ?rv4) rfl (by kernel_rfl) (by kernel_rfl) (by kernel_rfl) (fun _ _ _ h => h) (by rfl) hS (fun w2 hw2 => ?ry4) ?rr4
    case ry4 => ((try dsimp only at hw2); go_simp <;> with_reducible rfl)
    simp only [Act.put, List.setIfInBounds_toArray, List.set_cons_zero, List.set_cons_succ]
    refine rg_take 3 (v := ?rv5) rfl (by kernel_rfl) (by kernel_rfl) (by kernel_rfl) (fun _ _ _ h => h) (by rfl) hS (fun w2 hw2 => ?ry5) ?rr5
    case ry5 => ((try dsimp only at hw2); go_simp <;> with_reducible rfl)
    simp only [Act.put, List.setIfInBounds_toArray, List.set_cons_zero, List.set_cons_succ]
    refine rg_step 4 rfl (by kernel_rfl) (by rfl) (fun K hK => ?_)
    go_simp
    refine hK.out _ _ hS ?_
    clear hK K
    try simp only [Act.put, List.setIfInBounds_toArray, List.set_cons_zero, List.set_cons_succ]
    rcases HV.out.2.2.2.2.2.2.cases with ⟨e, _⟩ | ⟨b', c', cur, e, hb2, hc2, hm2, hsz, ht⟩
    · cases e
    cases e
    have KD := Lib.hid (delete_any hb2 hc2 hm2 hsz ht (i := 0) (j := i) (by omega) hin)
    clear hb2 hc2 hm2 hsz ht
    refine rg_step 6 rfl (by kernel_rfl) (by rfl) (fun K hK => ?_)
    go_simp
    refine KD.out.mono ?_
    rintro e w4 ⟨rfl, ho, hgr⟩
    rw [List.take_zero, List.nil_append] at ho
    have hgq : g ≠ w.heap.size := Nat.ne_of_lt hlg
    replace hS := (hgr.cell_far ⟨w.heap.size, 0, none⟩ (lt_of_cell' hS) (fun e => absurd (Option.some.inj e) (Nat.ne_of_gt hltb))).trans hS
    refine hK.out _ _ hS ?_
    clear hK K
    try simp only [Act.put, List.setIfInBounds_toArray, List.set_cons_zero, List.set_cons_succ]
    refine rg_take 7 (v := ?rv6) rfl (by kernel_rfl) (by kernel_rfl) (by kernel_rfl) (fun _ _ _ h => h) (by rfl) hS (fun w2 hw2 => ?ry6) ?rr6
    case ry6 => ((try dsimp only at hw2); go_simp <;> with_reducible rfl)
    simp only [Act.put, List.setIfInBounds_toArray, List.set_cons_zero, List.set_cons_succ]
    refine rg_take 8 (v := ?rv7) rfl (by kernel_rfl) (by kernel_rfl) (by kernel_rfl) (fun _ _ _ h => h) (by rfl) hS (fun w2 hw2 => ?ry7) ?rr7
    case ry7 => ((try dsimp only at hw2); go_simp <;> with_reducible rfl)
    simp only [Act.put, List.setIfInBounds_toArray, List.set_cons_zero, List.set_cons_succ]
    have hgr' : W3.grownBy w4 ob := HV.out.2.2.2.2.1 ▸ hgr
    obtain ⟨vq, hvq⟩ := HH.out.1.g1 HV.out.2.2.2.1 hgr'
    have k1 := cell_of_row w4 g 1 _ _ _ hvq
    have k2 : w4.frozen? ⟨g, 1, none⟩ = false := by simp [World.frozen?, hvq]
    have hHF := HH.out.1.stored HV.out.2.2.2.1 hgr' ho (.inl HV.out.2.2.2.2.1.symm) (sorted_sub HH.out.1.sorted (List.drop_sublist i xs)) (HH.out.1.uniq.sub (List.drop_sublist i xs))
    have hEv2 : EO (w4.setCell ⟨g, 1, none⟩ (.slice (some ⟨b, 0, none⟩) (0 + (xs.length - i)) c)) v' (xs.take i) := by
      refine HV.out.1.kept fun b' hb' => ?_
      have hgb : gv = b' := Option.some.inj (HV.out.2.1.symm.trans hb')
      subst hgb
      exact (Below.heap_setCell w4 ⟨g, 1, none⟩ _ gv (Nat.ne_of_gt (Nat.lt_of_lt_of_le hlg HV.out.2.2.1))).trans (hgr.block gv (HV.out.1.lt HV.out.2.1) (fun e => absurd (Option.some.inj e) (Nat.ne_of_gt (Nat.lt_of_lt_of_le hltb HV.out.2.2.1))))
    have HF := Lib.hid (And.intro hHF hEv2)
    clear ho hgr hgr' hvq hHF hEv2
    obtain ⟨nn, hnn⟩ : ∃ nn, nn = 0 + (xs.length - i) := ⟨_, rfl⟩
    rw [← hnn] at HF ⊢
    clear hnn
    refine rg_step 9 rfl (by kernel_rfl) (by rfl) (fun K hK => ?_)
    go_simp
    replace hS : (w4.setCell ⟨g, 1, none⟩ (.slice (some ⟨b, 0, none⟩) nn c)).cell? ⟨w.heap.size, 0, none⟩ = some (.pointer (some ⟨g, 0, none⟩)) := (World.cell?_of_block (w := w4) (a := ⟨w.heap.size, 0, none⟩) (Below.heap_setCell w4 ⟨g, 1, none⟩ _ w.heap.size (fun e => hgq e.symm))).trans hS
    refine hK.out _ _ hS ?_
    clear hK K
    try simp only [Act.put, List.setIfInBounds_toArray, List.set_cons_zero, List.set_cons_succ]
    refine rg_done (by kernel_rfl) ?_
    go_wp2_with fail
    go_ret
    have hd := due_parts HH.out.1.sorted HP.out
    refine ⟨v', rfl, ?_, ?_, .inr ⟨gv, HV.out.2.1, HV.out.2.2.1⟩, HF.out.1.2.1⟩
    · rw [hd]
      have := HF.out.1.1
      rw [HV.out.2.2.2.2.1]
      exact this
    · rw [hd]
      exact HF.out.2
-->>
end Go.Proofs.YtdpmjbhkmfjpfaaDoor
