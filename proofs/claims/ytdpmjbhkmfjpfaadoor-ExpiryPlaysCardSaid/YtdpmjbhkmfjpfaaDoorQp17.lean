/-
  Package expiry's Queue: put, Push, Move, Cancel, Next, Due, At. Conditions: those of the queue.
-/
import Derived.Test.YtdpmjbhkmfjpfaaDoorQu17
namespace Go.Proofs.YtdpmjbhkmfjpfaaDoor
open Go.RowKit
set_option maxRecDepth 100000

/-- Behind a row turned, or made anew, and stored. -/
theorem Qu.g1 {w W1 w2 : World} {g : Nat} {ob : Option Nat} {room : Int} {xs : List En} (h : Qu w g ob room xs) (hb : Below w.heap.size w W1) (hg : W1.grownBy w2 ob) : ∃ v, w2.heap[g]? = some (.cells #[.int .i64 room, v] 60 (0, 0)) := by
  obtain ⟨v, h1, _⟩ := h.here
  exact ⟨v, (hg.block g (Nat.lt_of_lt_of_le h.lt hb.size) (fun e => h.apart e.symm)).trans ((hb.block g h.lt).trans h1)⟩
theorem Qu.stored {w W1 w2 : World} {g : Nat} {ob : Option Nat} {room : Int} {xs ys : List En} {A : Option Addr} {n c : Nat} (h : Qu w g ob room xs) (hb : Below w.heap.size w W1) (hg : W1.grownBy w2 ob) (ho : EO w2 (.slice A n c) ys) (hf : (Value.slice A n c).ownBlock = ob ∨ (Value.slice A n c).ownBlock = some W1.heap.size) (hso : SortedE ys) (hu : Go.Proofs.YtdpmjbhkmfjpfaaDoor.uniq ys) :
    Qu (w2.setCell ⟨g, 1, none⟩ (.slice A n c)) g (Value.slice A n c).ownBlock room ys ∧ Mv g ob w (w2.setCell ⟨g, 1, none⟩ (.slice A n c)) ∧ Fresh ob (Value.slice A n c).ownBlock w.heap.size := by
  obtain ⟨v, hv⟩ := h.g1 hb hg
  have hlt := h.lt
  have hap : (Value.slice A n c).ownBlock ≠ some g := by
    rcases hf with e | e
    · rw [e]; exact h.apart
    · rw [e]
      intro e2
      have := Option.some.inj e2
      have := hb.size
      omega
  have hset : w2.setCell ⟨g, 1, none⟩ (.slice A n c) = w2.setRow g #[.int .i64 room, .slice A n c] := by
    rw [setCell_eq_setRow w2 g 1 _ _ _ _ hv]
    rfl
  rw [hset]
  refine ⟨⟨⟨_, setRow_heap w2 g _ _ _ _ hv, ho.kept fun b hb2 => setRow_other w2 g b _ (fun e => hap (by rw [hb2, e])), rfl⟩, hap, hso, hu⟩, ⟨hg.os.trans hb.os, hg.tape.trans hb.tape, hg.output.trans hb.output, by rw [size_setRow]; exact Nat.le_trans hb.size hg.size, fun k hk h1 h2 => ?_⟩, ?_⟩
  · exact (setRow_other w2 g k _ h1).trans ((hg.block k (Nat.lt_of_lt_of_le hk hb.size) h2).trans (hb.block k hk))
  · rcases hf with e | e
    · exact .inl e
    · exact .inr ⟨_, e, hb.size⟩
theorem range_grown {w w' : World} {ob : Option Nat} {b o : Nat} {cs : List Value} (h : w.rangeAt b o cs) (hg : w.grownBy w' ob) (hne : ob ≠ some b) (hlt : b < w.heap.size) : w'.rangeAt b o cs := fun j v hj =>
  (hg.cell_far ⟨b, o + j, none⟩ hlt (fun e => hne e.symm)).trans (h j v hj)
theorem range_set {w : World} {p : Addr} {v : Value} {b o : Nat} {cs : List Value} (h : w.rangeAt b o cs) (hne : p.block ≠ b) : (w.setCell p v).rangeAt b o cs := fun j u hj =>
  (World.cell?_of_block (w := w) (a := ⟨b, o + j, none⟩) (Below.heap_setCell w p v b (fun e => hne e.symm))).trans (h j u hj)
--<< put
set_option maxHeartbeats 4000000 in
theorem put_any {w : World} {g : Nat} {ob : Option Nat} {room : Int} {xs : List En} (h : Qu w g ob room xs) (x : En) (hx : hasV xs x.id = false) (hbig : xs.length ≤ 100000) : Calls Tryd.prog 27 #[.pointer (some ⟨g, 0, none⟩), .agg #[.int .i64 x.id, .int .u64 x.at_]] w fun e w' =>
    e = .returned (.tuple #[]) ∧ ∃ ob' xs', Qu w' g ob' room xs' ∧ xs'.Perm (xs ++ [x]) ∧ Mv g ob w w' ∧ Fresh ob ob' w.heap.size := by
  obtain ⟨A, c, q0, q1, hs, hEO, hob, hA, hg⟩ := h.open_
  have hlg := h.lt
  have hsz := hs.len
  obtain ⟨W, hW⟩ : ∃ W, w.alloc (.cells #[.int .i64 x.id, .int .u64 x.at_] 45) = W := ⟨_, rfl⟩
  have b1 : Below w.heap.size w W := hW ▸ (Below.refl _ _).alloc (Nat.le_refl _) _
  have hbox : W.rangeAt w.heap.size 0 [.int .i64 x.id, .int .u64 x.at_] := by
    rw [← hW]
    exact range2_new w _ _ _
  have hl : w.heap.size < W.heap.size := by rw [← hW]; simp
  have hidx : ∀ e ∈ xs, e.id ≠ x.id := fun e he hid => by
    have := hasV_iff.2 ⟨e, he, hid⟩
    rw [hx] at this
    cases this
  have HBX : ∀ w', Below W.heap.size W w' → w'.rangeAt w.heap.size 0 [.int .i64 x.id, .int .u64 x.at_] := fun w' hb => range_later hbox hb (Nat.le_refl _)
  have HQ : ∀ w', Below W.heap.size W w' → w'.cell? ⟨g, 1, none⟩ = some (.slice A xs.length c) := fun w' hb => (hb.cell (p := ⟨g, 1, none⟩) (Nat.lt_trans hlg hl)).trans ((b1.cell (p := ⟨g, 1, none⟩) hlg).trans q1)
  have HK : ∀ w', Below W.heap.size W w' → Calls Tryd.prog 43 #[.slice A xs.length c, .agg #[.int .i64 x.id, .int .u64 x.at_], .func (.func 44) #[] #[]] w' fun e w'' => ∃ (i : Nat) (b : Bool), e = .returned (.tuple #[.int .i64 i, .bool b]) ∧ Parts xs (fun e => En.lt e x) i ∧ Below w'.heap.size w' w'' := fun w' hb => bsearch_any (hs.later (b1.trans (hb.mono b1.size)) (Nat.le_refl _)) h.sorted x
  have HK := Lib.hid HK
  have HBX := Lib.hid HBX
  have HW := Lib.hid hW
  have HH := Lib.hid (And.intro h (And.intro b1 (And.intro hEO (And.intro hob (And.intro hg (And.intro hidx (And.intro hl hlg)))))))
  have HA := Lib.hid hA
  clear hW b1 hbox hEO hob hg hidx hs q0 q1 h hA hx hsz hl
  go_enter Tryd.func27, Tryd.ntmps27
  go_wp2_with (rw [HW.out])
  have hS : Below W.heap.size W W.drew := below_of_drew (Below.refl _ _)
  refine rg_begin (fun w' => Below W.heap.size W w') 11 (by kernel_rfl) rfl ?_
  refine rg_take 0 (v := ?rv1) rfl (by kernel_rfl) (by kernel_rfl) (by kernel_rfl) (fun _ _ _ h => h) (by rfl) hS (fun w2 hw2 => ?ry1) ?rr1
  case ry1 => ((try dsimp only at hw2); go_simp <;> with_reducible rfl)
  simp only [Act.put, List.setIfInBounds_toArray, List.set_cons_zero, List.set_cons_succ]
  refine rg_load 4 rfl (by kernel_rfl) (by kernel_rfl) (by kernel_rfl) (w.heap.size) (0) (#[.int .i64 x.id, .int .u64 x.at_]) (fun _ _ _ h => h) (by rfl) 45 (.tmp 3) rfl rfl hS (fun w2 h2 => HBX.out w2 h2) Tryd.underlying45 rfl (by kernel_rfl) ?_
  simp only [Act.put, List.setIfInBounds_toArray, List.set_cons_zero, List.set_cons_succ]
  refine rg_take 1 (v := ?rv2) rfl (by kernel_rfl) (by kernel_rfl) (by kernel_rfl) (fun _ _ _ h => h) (by rfl) hS (fun w2 hw2 => ?ry2) ?rr2
  case ry2 => ((try dsimp only at hw2); go_simp <;> with_reducible rfl)
  simp only [Act.put, List.setIfInBounds_toArray, List.set_cons_zero, List.set_cons_succ]
  refine rg_take 2 (v := ?rv3) rfl (by kernel_rfl) (by kernel_rfl) (by kernel_rfl) (fun _ _ _ h => h) (by rfl) hS (fun w2 hw2 => ?ry3) ?rr3
  case ry3 => ((try dsimp only at hw2); go_simp <;> with_reducible rfl)
  simp only [Act.put, List.setIfInBounds_toArray, List.set_cons_zero, List.set_cons_succ]
  refine rg_take 3 (v := ?rv4) rfl (by kernel_rfl) (by kernel_rfl) (by kernel_rfl) (fun _ _ _ h => h) (by rfl) hS (fun w2 hw2 => ?ry4) ?rr4
  case ry4 => ((try dsimp only at hw2); go_simp <;> with_reducible rfl)
  simp only [Act.put, List.setIfInBounds_toArray, List.set_cons_zero, List.set_cons_succ]
  refine rg_step 5 rfl (by kernel_rfl) (by rfl) (fun K hK => ?_)
  go_simp
  refine (HK.out _ hS).mono ?_
  rintro e w1 ⟨i, bb, rfl, hp, hb⟩
  replace hS := hS.trans (hb.mono hS.size)
  clear hb
  refine hK.out _ _ hS ?_
  clear hK K
  try simp only [Act.put, List.setIfInBounds_toArray, List.set_cons_zero, List.set_cons_succ]
  refine rg_take 6 (v := ?rv5) rfl (by kernel_rfl) (by kernel_rfl) (by kernel_rfl) (fun _ _ _ h => h) (by rfl) hS (fun w2 hw2 => ?ry5) ?rr5
  case ry5 => ((try dsimp only at hw2); go_simp <;> with_reducible rfl)
  simp only [Act.put, List.setIfInBounds_toArray, List.set_cons_zero, List.set_cons_succ]
  refine rg_take 7 (v := ?rv6) rfl (by kernel_rfl) (by kernel_rfl) (by kernel_rfl) (fun _ _ _ h => h) (by rfl) hS (fun w2 hw2 => ?ry6) ?rr6
  case ry6 => ((try dsimp only at hw2); go_simp <;> with_reducible rfl)
  simp only [Act.put, List.setIfInBounds_toArray, List.set_cons_zero, List.set_cons_succ]
  refine rg_take 8 (v := ?rv7) rfl (by kernel_rfl) (by kernel_rfl) (by kernel_rfl) (fun _ _ _ h => h) (by rfl) hS (fun w2 hw2 => ?ry7) ?rr7
  case ry7 => ((try dsimp only at hw2); go_simp <;> with_reducible rfl)
  simp only [Act.put, List.setIfInBounds_toArray, List.set_cons_zero, List.set_cons_succ]
  refine rg_take 9 (v := ?rv8) rfl (by kernel_rfl) (by kernel_rfl) (by kernel_rfl) (fun _ _ _ h => h) (by rfl) hS (fun w2 hw2 => ?ry8) ?rr8
  case ry8 => ((try dsimp only at hw2); go_simp <;> with_reducible rfl)
  simp only [Act.put, List.setIfInBounds_toArray, List.set_cons_zero, List.set_cons_succ]
  refine rg_take 10 (v := ?rv9) rfl (by kernel_rfl) (by kernel_rfl) (by kernel_rfl) (fun _ _ _ h => h) (by rfl) hS (fun w2 hw2 => ?ry9) ?rr9
  case ry9 => ((try dsimp only at hw2); go_simp <;> with_reducible rfl)
  simp only [Act.put, List.setIfInBounds_toArray, List.set_cons_zero, List.set_cons_succ]
  refine rg_done (by kernel_rfl) ?_
  have HS := Lib.hid (And.intro hS hp)
  clear hS hp
  go_wp2_with fail
  have HP := Lib.hid HS.out.2
  have hS0 : Below W.heap.size W w1.drew := below_of_drew HS.out.1
  have HS0 := Lib.hid hS0
  have hS := HBX.out _ hS0
  have r4 := HQ _ hS0
  clear hS0 HS HQ
  refine rg_begin (fun w' => w'.rangeAt w.heap.size 0 [.int .i64 x.id, .int .u64 x.at_]) 12 (by kernel_rfl) rfl ?_
  obtain ⟨W0, hW0⟩ : ∃ W0, w1.drew = W0 := ⟨_, rfl⟩
  rw [hW0] at hS r4 HS0 ⊢
  clear hW0
  refine rg_take 0 (v := ?rv10) rfl (by kernel_rfl) (by kernel_rfl) (by kernel_rfl) (fun _ _ _ h => h) (by rfl) hS (fun w2 hw2 => ?ry10) ?rr10
  case ry10 => ((try dsimp only at hw2); go_simp <;> with_reducible rfl)
  simp only [Act.put, List.setIfInBounds_toArray, List.set_cons_zero, List.set_cons_succ]
  refine rg_take 1 (v := ?rv11) rfl (by kernel_rfl) (by kernel_rfl) (by kernel_rfl) (fun _ _ _ h => h) (by rfl) hS (fun w2 hw2 => ?ry11) ?rr11
  case ry11 => ((try dsimp only at hw2); go_simp <;> with_reducible rfl)
  simp only [Act.put, List.setIfInBounds_toArray, List.set_cons_zero, List.set_cons_succ]
  refine rg_take 5 (v := ?rv12) rfl (by kernel_rfl) (by kernel_rfl) (by kernel_rfl) (fun _ _ _ h => h) (by rfl) hS (fun w2 hw2 => ?ry12) ?rr12
  case ry12 => ((try dsimp only at hw2); go_simp <;> with_reducible rfl)
  simp only [Act.put, List.setIfInBounds_toArray, List.set_cons_zero, List.set_cons_succ]
  refine rg_load 6 rfl (by kernel_rfl) (by kernel_rfl) (by kernel_rfl) (w.heap.size) (0) (#[.int .i64 x.id, .int .u64 x.at_]) (fun _ _ _ h => h) (by rfl) 45 (.tmp 3) rfl rfl hS (fun w2 h2 => h2) Tryd.underlying45 rfl (by kernel_rfl) ?_
  simp only [Act.put, List.setIfInBounds_toArray, List.set_cons_zero, List.set_cons_succ]
  refine rg_take 2 (v := ?rv13) rfl (by kernel_rfl) (by kernel_rfl) (by kernel_rfl) (fun _ _ _ h => h) (by rfl) hS (fun w2 hw2 => ?ry13) ?rr13
  case ry13 => ((try dsimp only at hw2); go_simp <;> with_reducible rfl)
  simp only [Act.put, List.setIfInBounds_toArray, List.set_cons_zero, List.set_cons_succ]
  refine rg_take 3 (v := ?rv14) rfl (by kernel_rfl) (by kernel_rfl) (by kernel_rfl) (fun _ _ _ h => h) (by rfl) hS (fun w2 hw2 => ?ry14) ?rr14
  case ry14 => ((try dsimp only at hw2); go_simp <;> with_reducible rfl)
  simp only [Act.put, List.setIfInBounds_toArray, List.set_cons_zero, List.set_cons_succ]
  refine rg_any [4, 7] (by kernel_rfl) (by simp) ?_
  refine rg_or 4 rfl (by rfl) (fun K hK => ?_) ?_
  · go_simp
    refine hK.out _ _ hS ?_
    clear hK K
    try simp only [Act.put, List.setIfInBounds_toArray, List.set_cons_zero, List.set_cons_succ]
    refine rg_step 7 rfl (by kernel_rfl) (by rfl) (fun K hK => ?_)
    go_simp
    have hb7 : Below W0.heap.size W0 (W0.alloc (.cells #[.int .i64 x.id, .int .u64 x.at_] 45)) := (Below.refl _ _).alloc (Nat.le_refl _) _
    have hv7 : (W0.alloc (.cells #[.int .i64 x.id, .int .u64 x.at_] 45)).heap[W0.heap.size]? = some (.cells #[.int .i64 x.id, .int .u64 x.at_] 45 (0, 0)) := heap_alloc_new W0 _
    obtain ⟨W1, hW1⟩ : ∃ W1, W0.alloc (.cells #[.int .i64 x.id, .int .u64 x.at_] 45) = W1 := ⟨_, rfl⟩
    rw [hW1] at hb7 hv7 ⊢
    clear hW1
    replace hS := range_later hS hb7 (Nat.le_refl _)
    refine hK.out _ _ hS ?_
    clear hK K
    try simp only [Act.put, List.setIfInBounds_toArray, List.set_cons_zero, List.set_cons_succ]
    refine rg_step 8 rfl (by kernel_rfl) (by rfl) (fun K hK => ?_)
    go_simp
    have hB1 : Below w.heap.size w W1 := (HH.out.2.1.trans (HS0.out.mono HH.out.2.1.size)).trans (hb7.mono (HH.out.2.1.trans (HS0.out.mono HH.out.2.1.size)).size)
    have hlw : w.heap.size < W1.heap.size := Nat.lt_of_lt_of_le HH.out.2.2.2.2.2.2.1 (Nat.le_trans HS0.out.size hb7.size)
    have hob : ob ≠ some w.heap.size := fun e => absurd (HH.out.1.lto e) (Nat.lt_irrefl _)
    refine (insert_any (w := W1) (xs := xs) (x := x) (i := i) (HH.out.2.2.1.kept fun b hb => hB1.block b (HH.out.2.2.1.lt hb)) HP.out.1 hv7 (fun e => absurd (HH.out.2.2.1.lt e) (Nat.not_lt.2 (Nat.le_trans HH.out.2.1.size HS0.out.size))) hbig).mono ?_
    rintro e w2 ⟨v', rfl, ho, hgr, hfr⟩
    rw [HH.out.2.2.2.1] at hgr hfr
    replace hS := range_grown hS hgr hob hlw
    refine hK.out _ _ hS ?_
    clear hK K
    try simp only [Act.put, List.setIfInBounds_toArray, List.set_cons_zero, List.set_cons_succ]
    obtain ⟨A', c', rfl, _, _⟩ := EnS.of_own ho
    obtain ⟨n', hn'⟩ : ∃ n', n' = (xs.take i ++ x :: xs.drop i).length := ⟨_, rfl⟩
    rw [← hn'] at ho hfr ⊢
    clear hn'
    refine rg_take 9 (v := ?rv15) rfl (by kernel_rfl) (by kernel_rfl) (by kernel_rfl) (fun _ _ _ h => h) (by rfl) hS (fun w2 hw2 => ?ry15) ?rr15
    case ry15 => ((try dsimp only at hw2); go_simp <;> with_reducible rfl)
    simp only [Act.put, List.setIfInBounds_toArray, List.set_cons_zero, List.set_cons_succ]
    refine rg_take 10 (v := ?rv16) rfl (by kernel_rfl) (by kernel_rfl) (by kernel_rfl) (fun _ _ _ h => h) (by rfl) hS (fun w2 hw2 => ?ry16) ?rr16
    case ry16 => ((try dsimp only at hw2); go_simp <;> with_reducible rfl)
    simp only [Act.put, List.setIfInBounds_toArray, List.set_cons_zero, List.set_cons_succ]
    obtain ⟨vq, hvq⟩ := HH.out.1.g1 hB1 hgr
    have k1 := cell_of_row w2 g 1 _ _ _ hvq
    have k2 : w2.frozen? ⟨g, 1, none⟩ = false := by simp [World.frozen?, hvq]
    have HF := Lib.hid (HH.out.1.stored hB1 hgr ho hfr (ins_sorted HH.out.1.sorted HP.out HH.out.2.2.2.2.2.1) ((HH.out.1.uniq.push (id := x.id) (at_ := x.at_) (Bool.eq_false_iff.2 fun h => by obtain ⟨e, he, h2⟩ := hasV_iff.1 h; exact HH.out.2.2.2.2.2.1 e he h2)).perm (ins_perm xs x i).symm))
    clear ho hgr hfr hvq hv7 hb7 hB1 hob
    refine rg_step 11 rfl (by kernel_rfl) (by rfl) (fun K hK => ?_)
    go_simp
    replace hS := range_set (p := ⟨g, 1, none⟩) (v := .slice A' n' c') hS (Nat.ne_of_lt HH.out.2.2.2.2.2.2.2)
    refine hK.out _ _ hS ?_
    clear hK K
    try simp only [Act.put, List.setIfInBounds_toArray, List.set_cons_zero, List.set_cons_succ]
    refine rg_done (by kernel_rfl) ?_
    (try simp only [Exit.inBlock, Exit.then])
    refine bodyPost_end (results_none rfl _ _ _) rfl ?_
    exact ⟨rfl, _, _, HF.out.1, ins_perm xs x i, HF.out.2.1, HF.out.2.2⟩
  refine rg_or 7 rfl (by rfl) (fun K hK => ?_) AllReadyH.nil
  · go_simp
    have hb7 : Below W0.heap.size W0 (W0.alloc (.cells #[.int .i64 x.id, .int .u64 x.at_] 45)) := (Below.refl _ _).alloc (Nat.le_refl _) _
    have hv7 : (W0.alloc (.cells #[.int .i64 x.id, .int .u64 x.at_] 45)).heap[W0.heap.size]? = some (.cells #[.int .i64 x.id, .int .u64 x.at_] 45 (0, 0)) := heap_alloc_new W0 _
    obtain ⟨W1, hW1⟩ : ∃ W1, W0.alloc (.cells #[.int .i64 x.id, .int .u64 x.at_] 45) = W1 := ⟨_, rfl⟩
    rw [hW1] at hb7 hv7 ⊢
    clear hW1
    replace hS := range_later hS hb7 (Nat.le_refl _)
    have r5 : W1.cell? ⟨g, 1, none⟩ = some (.slice A xs.length c) := (hb7.cell (p := ⟨g, 1, none⟩) (lt_of_cell' r4)).trans r4
    refine hK.out _ _ hS ?_
    clear hK K
    try simp only [Act.put, List.setIfInBounds_toArray, List.set_cons_zero, List.set_cons_succ]
    refine rg_step 4 rfl (by kernel_rfl) (by rfl) (fun K hK => ?_)
    go_simp
    refine hK.out _ _ hS ?_
    clear hK K
    try simp only [Act.put, List.setIfInBounds_toArray, List.set_cons_zero, List.set_cons_succ]
    refine rg_step 8 rfl (by kernel_rfl) (by rfl) (fun K hK => ?_)
    go_simp
    have hB1 : Below w.heap.size w W1 := (HH.out.2.1.trans (HS0.out.mono HH.out.2.1.size)).trans (hb7.mono (HH.out.2.1.trans (HS0.out.mono HH.out.2.1.size)).size)
    have hlw : w.heap.size < W1.heap.size := Nat.lt_of_lt_of_le HH.out.2.2.2.2.2.2.1 (Nat.le_trans HS0.out.size hb7.size)
    have hob : ob ≠ some w.heap.size := fun e => absurd (HH.out.1.lto e) (Nat.lt_irrefl _)
    refine (insert_any (w := W1) (xs := xs) (x := x) (i := i) (HH.out.2.2.1.kept fun b hb => hB1.block b (HH.out.2.2.1.lt hb)) HP.out.1 hv7 (fun e => absurd (HH.out.2.2.1.lt e) (Nat.not_lt.2 (Nat.le_trans HH.out.2.1.size HS0.out.size))) hbig).mono ?_
    rintro e w2 ⟨v', rfl, ho, hgr, hfr⟩
    rw [HH.out.2.2.2.1] at hgr hfr
    replace hS := range_grown hS hgr hob hlw
    refine hK.out _ _ hS ?_
    clear hK K
    try simp only [Act.put, List.setIfInBounds_toArray, List.set_cons_zero, List.set_cons_succ]
    obtain ⟨A', c', rfl, _, _⟩ := EnS.of_own ho
    obtain ⟨n', hn'⟩ : ∃ n', n' = (xs.take i ++ x :: xs.drop i).length := ⟨_, rfl⟩
    rw [← hn'] at ho hfr ⊢
    clear hn'
    refine rg_take 9 (v := ?rv17) rfl (by kernel_rfl) (by kernel_rfl) (by kernel_rfl) (fun _ _ _ h => h) (by rfl) hS (fun w2 hw2 => ?ry17) ?rr17
    case ry17 => ((try dsimp only at hw2); go_simp <;> with_reducible rfl)
    simp only [Act.put, List.setIfInBounds_toArray, List.set_cons_zero, List.set_cons_succ]
    refine rg_take 10 (v := ?rv18) rfl (by kernel_rfl) (by kernel_rfl) (by kernel_rfl) (fun _ _ _ h => h) (by rfl) hS (fun w2 hw2 => ?ry18) ?rr18
    case ry18 => ((try dsimp only at hw2); go_simp <;> with_reducible rfl)
    simp only [Act.put, List.setIfInBounds_toArray, List.set_cons_zero, List.set_cons_succ]
    obtain ⟨vq, hvq⟩ := HH.out.1.g1 hB1 hgr
    have k1 := cell_of_row w2 g 1 _ _ _ hvq
    have k2 : w2.frozen? ⟨g, 1, none⟩ = false := by simp [World.frozen?, hvq]
    have HF := Lib.hid (HH.out.1.stored hB1 hgr ho hfr (ins_sorted HH.out.1.sorted HP.out HH.out.2.2.2.2.2.1) ((HH.out.1.uniq.push (id := x.id) (at_ := x.at_) (Bool.eq_false_iff.2 fun h => by obtain ⟨e, he, h2⟩ := hasV_iff.1 h; exact HH.out.2.2.2.2.2.1 e he h2)).perm (ins_perm xs x i).symm))
    clear ho hgr hfr hvq hv7 hb7 hB1 hob
    refine rg_step 11 rfl (by kernel_rfl) (by rfl) (fun K hK => ?_)
    go_simp
    replace hS := range_set (p := ⟨g, 1, none⟩) (v := .slice A' n' c') hS (Nat.ne_of_lt HH.out.2.2.2.2.2.2.2)
    refine hK.out _ _ hS ?_
    clear hK K
    try simp only [Act.put, List.setIfInBounds_toArray, List.set_cons_zero, List.set_cons_succ]
    refine rg_done (by kernel_rfl) ?_
    (try simp only [Exit.inBlock, Exit.then])
    refine bodyPost_end (results_none rfl _ _ _) rfl ?_
    exact ⟨rfl, _, _, HF.out.1, ins_perm xs x i, HF.out.2.1, HF.out.2.2⟩
-->>
end Go.Proofs.YtdpmjbhkmfjpfaaDoor
