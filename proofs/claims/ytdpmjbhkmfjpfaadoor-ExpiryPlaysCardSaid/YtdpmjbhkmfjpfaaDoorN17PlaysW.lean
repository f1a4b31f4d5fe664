/-
  ExpiryPlays: whatever is asked of a queue, against the document's table. Conditions: errors.errorType holds the handle of the type error.
-/
import Derived.Test.YtdpmjbhkmfjpfaaDoorPp17
namespace Go.Proofs.YtdpmjbhkmfjpfaaDoor
open Go.RowKit
set_option maxRecDepth 100000

--<< walk
set_option maxHeartbeats 16000000 in
theorem expiryPlays {A : Option Addr} {n c : Nat} {os : List Op17} {w : World} (N : Int) (ho : OpS w A n c os) (hg : Handle w) :
    Calls Tryd.prog 3 #[.int .i64 N, .slice A n c] w fun ev w' => ev = .returned (.bool true) ∧ Below w.heap.size w w' := by
  have hcap := ho.cap
  have hmax := ho.max
  have hlen := ho.len
  unfold maxLen at hmax
  have K1 := Lib.hid (new_L N w)
  have K3 := Lib.hid fun w1 => awake17 w1
  have HO := Lib.hid (And.intro ho hg)
  clear ho hg
  go_enter Tryd.func3, Tryd.ntmps3
  go_wp2_with fail
  refine K1.out.mono ?_
  rintro ev w1 ⟨rfl, h1, b1⟩
  obtain ⟨g, hgg⟩ : ∃ g, g = w.heap.size := ⟨_, rfl⟩
  rw [← hgg] at h1 ⊢
  have hps : Ps w (w1.alloc (.cells #[.int .i64 N, .slice none 0 0] 28)) g w1.heap.size N [] := by
    have hb := (Below.refl w1.heap.size w1).alloc (Nat.le_refl _) (.cells #[.int .i64 N, .slice none 0 0] 28)
    have hlt := h1.lt
    refine ⟨none, none, h1.later hb (Nat.le_refl _), ⟨⟨_, heap_alloc_new w1 _, EO.nil _, rfl⟩, by simp⟩, ⟨Nat.ne_of_lt hlt, by simp, by simp, fun b hb => by cases hb⟩, ⟨by omega, fun b hb => by cases hb⟩, ⟨b1.size, fun b hb => by cases hb⟩, b1.trans (hb.mono b1.size), List.Pairwise.nil⟩
  obtain ⟨e, he⟩ : ∃ e, e = w1.heap.size := ⟨_, rfl⟩
  have HP0 := Lib.hid hps
  have HE := Lib.hid he.symm
  rw [← he] at HP0
  clear h1 b1 hgg K1 hps he
  go_wp2_with (rw [HE.out])
  refine (K3.out _).mono ?_
  rintro ev w3 ⟨rfl, b3⟩
  have HP1 := Lib.hid (HP0.out.later b3)
  clear b3 K3 HP0 HE
  go_wp2_with fail
  go_loopw [7] (fun x wr => ∃ (k : Nat) (ys : List En), k ≤ n ∧ k ≤ 120 ∧ x = .int .i64 k ∧ ys.length ≤ k ∧ Ps w wr g e N ys) (fun x _ => n - (intOf x).toNat)
  case atStart => exact ⟨0, [], Nat.zero_le _, Nat.zero_le _, rfl, Nat.le_refl _, HP1.out⟩
  case round =>
    obtain ⟨k, ys, hk, hk2, rfl, hyl, hp⟩ := hrel
    clear HP1
    by_cases hkn : k < n ∧ k < 120
    · obtain ⟨hkn, hk3⟩ := hkn
      obtain ⟨o, hok⟩ : ∃ o, os[k]? = some o := ⟨os[k]'(by rw [hlen]; exact hkn), List.getElem?_eq_getElem _⟩
      obtain ⟨b, off, rfl, hr, hlt⟩ := (HO.out.1.later hp.below (Nat.le_refl _)).here k o hok
      have r0 := hr 0 _ rfl
      have r1 := hr 1 _ rfl
      have r2 := hr 2 _ rfl
      rw [Nat.add_zero] at r0
      have hkn2 : (k : Int) < (n : Int) := by omega
      have hk120 : (k : Int) < 120 := by omega
      have HPB := Lib.hid (hp.box o)
      obtain ⟨p, hpp⟩ : ∃ p, p = wr.heap.size := ⟨_, rfl⟩
      rw [← hpp] at HPB
      obtain ⟨kd, id, t⟩ := o
      dsimp only at r0 r1 r2 HPB
      obtain ⟨W5, hW5⟩ : ∃ W5, wr.alloc (.cells #[.int .i64 kd, .int .i64 id, .int .u64 t] 32) = W5 := ⟨_, rfl⟩
      rw [hW5] at HPB
      have HW := Lib.hid (And.intro hW5 hpp.symm)
      have q0 := HPB.out.op.cell 0
      have q1 := HPB.out.op.cell 1
      have q2 := HPB.out.op.cell 2
      clear hr hlt hok hp hW5 hpp
      have hy1 : ys.length ≤ 100000 := by omega
      have x0 : ∀ w', OpB w' p ⟨kd, id, t⟩ → w'.cell? ⟨p, 0, none⟩ = some (.int .i64 kd) := fun w' h => h.cell 0
      have x1 : ∀ w', OpB w' p ⟨kd, id, t⟩ → w'.cell? ⟨p, 1, none⟩ = some (.int .i64 id) := fun w' h => h.cell 1
      have x2 : ∀ w', OpB w' p ⟨kd, id, t⟩ → w'.cell? ⟨p, 2, none⟩ = some (.int .u64 t) := fun w' h => h.cell 2
      by_cases k1 : kd = 1
      · subst k1
        go_wp2_with (first | (rw [HW.out.1, HW.out.2]))
        have HD := Lib.hid (HPB.out.later (below_of_drew (Below.refl _ W5)))
        obtain ⟨W6, hW6⟩ : ∃ W6, W5.drew = W6 := ⟨_, rfl⟩
        rw [hW6] at HD
        have hS := HD.out.op
        refine rg_begin (fun w' => OpB w' p ⟨1, id, t⟩) 14 (by kernel_rfl) rfl ?_
        rw [hW6]
        clear hW6
        refine rg_take 0 (v := ?rv1) rfl (by kernel_rfl) (by kernel_rfl) (by kernel_rfl) (fun _ _ _ h => h) (by rfl) hS (fun w2 hw2 => ?ry1) ?rr1
        case ry1 => ((try dsimp only at hw2); go_simp <;> with_reducible rfl)
        simp only [Act.put, List.setIfInBounds_toArray, List.set_cons_zero, List.set_cons_succ]
        refine rg_take 1 (v := ?rv2) rfl (by kernel_rfl) (by kernel_rfl) (by kernel_rfl) (fun _ _ _ h => h) (by rfl) hS (fun w2 hw2 => ?ry2) ?rr2
        case ry2 => ((try dsimp only at hw2); go_simp <;> with_reducible rfl)
        simp only [Act.put, List.setIfInBounds_toArray, List.set_cons_zero, List.set_cons_succ]
        refine rg_take 2 (v := ?rv3) rfl (by kernel_rfl) (by kernel_rfl) (by kernel_rfl) (fun _ _ _ h => h) (by rfl) hS (fun w2 hw2 => ?ry3) ?rr3
        case ry3 => ((try dsimp only at hw2); go_simp <;> with_reducible rfl)
        simp only [Act.put, List.setIfInBounds_toArray, List.set_cons_zero, List.set_cons_succ]
        refine rg_take 3 (v := ?rv4) rfl (by kernel_rfl) (by kernel_rfl) (by kernel_rfl) (fun _ _ _ h => h) (by rfl) hS (fun w2 hw2 => ?ry4) ?rr4
        case ry4 => ((try dsimp only at hw2); go_simp <;> with_reducible rfl)
        simp only [Act.put, List.setIfInBounds_toArray, List.set_cons_zero, List.set_cons_succ]
        refine rg_take 4 (v := ?rv5) rfl (by kernel_rfl) (by kernel_rfl) (by kernel_rfl) (fun _ _ _ h => h) (by rfl) hS (fun w2 hw2 => ?ry5) ?rr5
        case ry5 => ((try dsimp only at hw2); go_simp <;> with_reducible rfl)
        simp only [Act.put, List.setIfInBounds_toArray, List.set_cons_zero, List.set_cons_succ]
        refine rg_take 6 (v := ?rv6) rfl (by kernel_rfl) (by kernel_rfl) (by kernel_rfl) (fun _ _ _ h => h) (by rfl) hS (fun w2 hw2 => ?ry6) ?rr6
        case ry6 => ((try dsimp only at hw2); go_simp <;> with_reducible rfl)
        simp only [Act.put, List.setIfInBounds_toArray, List.set_cons_zero, List.set_cons_succ]
        refine rg_take 7 (v := ?rv7) rfl (by kernel_rfl) (by kernel_rfl) (by kernel_rfl) (fun _ _ _ h => h) (by rfl) hS (fun w2 hw2 => ?ry7) ?rr7
        case ry7 => ((try dsimp only at hw2); go_simp <;> with_reducible rfl)
        simp only [Act.put, List.setIfInBounds_toArray, List.set_cons_zero, List.set_cons_succ]
        refine rg_take 8 (v := ?rv8) rfl (by kernel_rfl) (by kernel_rfl) (by kernel_rfl) (fun _ _ _ h => h) (by rfl) hS (fun w2 hw2 => ?ry8) ?rr8
        case ry8 => ((try dsimp only at hw2); go_simp <;> with_reducible rfl)
        simp only [Act.put, List.setIfInBounds_toArray, List.set_cons_zero, List.set_cons_succ]
        refine rg_take 9 (v := ?rv9) rfl (by kernel_rfl) (by kernel_rfl) (by kernel_rfl) (fun _ _ _ h => h) (by rfl) hS (fun w2 hw2 => ?ry9) ?rr9
        case ry9 => ((try dsimp only at hw2); go_simp <;> with_reducible rfl)
        simp only [Act.put, List.setIfInBounds_toArray, List.set_cons_zero, List.set_cons_succ]
        refine rg_take 10 (v := ?rv10) rfl (by kernel_rfl) (by kernel_rfl) (by kernel_rfl) (fun _ _ _ h => h) (by rfl) hS (fun w2 hw2 => ?ry10) ?rr10
        case ry10 => ((try dsimp only at hw2); go_simp <;> with_reducible rfl)
        simp only [Act.put, List.setIfInBounds_toArray, List.set_cons_zero, List.set_cons_succ]
        refine rg_step 5 rfl (by kernel_rfl) (by rfl) (fun K hK => ?_)
        go_simp
        refine (HD.out.qmove hy1 id t).mono ?_
        rintro ev w7 ⟨rfl, p7⟩
        have H7 := Lib.hid p7
        replace hS := p7.op
        clear p7 HD
        refine hK.out _ _ hS ?_
        clear hK K
        try simp only [Act.put, List.setIfInBounds_toArray, List.set_cons_zero, List.set_cons_succ]
        refine rg_step 11 rfl (by kernel_rfl) (by rfl) (fun K hK => ?_)
        go_simp
        refine (H7.out.tmove hy1 id t).mono ?_
        rintro ev w8 ⟨rfl, p8⟩
        have H8 := Lib.hid p8
        replace hS := p8.op
        clear p8 H7
        refine hK.out _ _ hS ?_
        clear hK K
        try simp only [Act.put, List.setIfInBounds_toArray, List.set_cons_zero, List.set_cons_succ]
        refine rg_step 12 rfl (by kernel_rfl) (by rfl) (fun K hK => ?_)
        go_simp
        refine (is_res (HO.out.2.later H8.out.below (Nat.le_refl _)) id (hasC ys id)).mono ?_
        rintro ev w9 ⟨rfl, b9⟩
        have HPC := Lib.hid (H8.out.later b9)
        have hzl : (moveE ys id t).length ≤ k + 1 := by rw [moveE_length]; omega
        clear b9 H8
        replace hS := HPC.out.op
        refine hK.out _ _ hS ?_
        clear hK K
        try simp only [Act.put, List.setIfInBounds_toArray, List.set_cons_zero, List.set_cons_succ]
        refine rg_take 13 (v := ?rv11) rfl (by kernel_rfl) (by kernel_rfl) (by kernel_rfl) (fun _ _ _ h => h) (by rfl) hS (fun w2 hw2 => ?ry11) ?rr11
        case ry11 => ((try dsimp only at hw2); go_simp <;> with_reducible rfl)
        simp only [Act.put, List.setIfInBounds_toArray, List.set_cons_zero, List.set_cons_succ]
        refine rg_done (by kernel_rfl) ?_
        clear hS
        obtain ⟨zs, hzs⟩ : ∃ l, l = moveE ys id t := ⟨_, rfl⟩
        rw [← hzs] at HPC hzl
        have HPS := Lib.hid HPC.out.base
        have HOP := Lib.hid HPC.out.op
        clear hzs HPC
        have hz1 : zs.length ≤ 100000 := by omega
        obtain ⟨ni, nt, nb, hR⟩ := nextR_tup (nextV zs)
        obtain ⟨at1, ab, hA⟩ := atR_tup (atV zs id)
        have KN1 : Hid (Calls Tryd.prog 18 #[.pointer (some ⟨g, 0, none⟩)] w9 fun ev w'' => ev = .returned (.tuple #[.agg #[.int .i64 ni, .int .u64 nt], .bool nb]) ∧ Below w9.heap.size w9 w'') := by
          have h := HPS.out.qnext
          rw [hR] at h
          exact h
        have KN2 : Hid (∀ w', Below w9.heap.size w9 w' → Calls Tryd.prog 19 #[.pointer (some ⟨e, 0, none⟩)] w' fun ev w'' => ev = .returned (.tuple #[.agg #[.int .i64 ni, .int .u64 nt], .bool nb]) ∧ Below w'.heap.size w' w'') := fun w' hb => by
          have h := (HPS.out.later hb).tnext hz1
          rw [hR] at h
          exact h
        have KA : Hid (∀ w', Below w9.heap.size w9 w' → Calls Tryd.prog 20 #[.pointer (some ⟨g, 0, none⟩), .int .i64 id] w' fun ev w'' => ev = .returned (.tuple #[.int .u64 at1, .bool ab]) ∧ Below w'.heap.size w' w'') := fun w' hb => by
          have h := (HPS.out.later hb).qat id
          rw [hA] at h
          exact h
        have HAT := Lib.hid hA
        clear hR hA q0 q1 q2 x0 x1 x2 hkn2 hk120 HPB
        go_wp2_with (refine KN1.out.mono ?_; rintro ev wa ⟨rfl, ba⟩; have BA := Lib.hid ba; clear ba)
        obtain ⟨Wb, hWb⟩ : ∃ W, wa.alloc (.cells #[.int .i64 ni, .int .u64 nt] 45) = W := ⟨_, rfl⟩
        have hEa : EnB Wb wa.heap.size ni nt := hWb ▸ heap_alloc_new wa _
        have hBb : Below w9.heap.size w9 Wb := hWb ▸ BA.out.alloc BA.out.size _
        rw [hWb]
        clear hWb
        refine (KN2.out Wb hBb).mono ?_
        rintro ev wc ⟨rfl, bc⟩
        have HBc := Lib.hid (hBb.trans (bc.mono hBb.size))
        have HEc := Lib.hid (hEa.later bc (Nat.le_refl _))
        clear hEa hBb bc KN1 KN2 BA
        go_wp2_with (first
          | (refine wpList_alloc_enB rfl rfl ?_
             intro wd ad bd sd
             have HD1 := Lib.hid (And.intro ad (And.intro bd sd))
             clear ad bd sd)
          | (refine wpList_store_enB rfl (.tmp 12) (.tmp 104) rfl ni nt rfl rfl HD1.out.1 ?_
             intro we ae me se
             have HBe : Below w9.heap.size w9 we := below_of_new (HBc.out.trans (HD1.out.2.1.mono HBc.out.size)) me HBc.out.size
             have HPe : OpB we p ⟨1, id, t⟩ := (HBe.block p HOP.out.lt).trans HOP.out
             have q1 := HPe.cell 1
             have q1 : we.cell? ⟨p, 1, none⟩ = some (.int .i64 id) := q1
             have HXe : EnB we wa.heap.size ni nt := (me.block wa.heap.size (Nat.lt_of_lt_of_le HEc.out.lt HD1.out.2.1.size) (Nat.ne_of_lt HEc.out.lt) (by simp)).trans (HEc.out.later HD1.out.2.1 (Nat.le_refl _))
             have HE1 := Lib.hid (And.intro HBe (And.intro HPe (And.intro HXe ae)))
             clear ae me se HBe HPe HXe))
        clear q1
        refine (KA.out we HE1.out.1).mono ?_
        rintro ev wf ⟨rfl, bf⟩
        have hof : OpB wf p ⟨1, id, t⟩ := (bf.block p HE1.out.2.1.lt).trans HE1.out.2.1
        have HF := Lib.hid (And.intro (HE1.out.1.trans (bf.mono HE1.out.1.size)) (And.intro hof (And.intro (HE1.out.2.2.1.later bf (Nat.le_refl _)) (HE1.out.2.2.2.later bf (Nat.le_refl _)))))
        clear bf KA HD1 hof
        obtain ⟨m, hm⟩ : ∃ m, m = zs.length := ⟨_, rfl⟩
        have hrow := (HPS.out.later HF.out.1).row
        rw [← hm] at hrow
        obtain ⟨AZ, cz, qz, sz⟩ := hrow
        have hmm : m ≤ 1000 := by omega
        have HZ := Lib.hid (And.intro qz (And.intro sz hm))
        clear qz sz hm HE1 HBc HEc
        go_wp2_with fail
        go_loopw [16, 17, 18] (fun a1 a2 a3 wr => ∃ (j : Nat) (ta : Int) (bb : Bool), j ≤ m ∧ a1 = .int .u64 ta ∧ a2 = .bool bb ∧ a3 = .int .i64 j ∧ Seen zs id j ta bb ∧ Below wf.heap.size wf wr) (fun _ _ a3 _ => m - (intOf a3).toNat)
        case atStart => exact ⟨0, 0, false, Nat.zero_le _, rfl, rfl, rfl, .inl ⟨rfl, rfl, fun j x h => absurd h (by omega)⟩, Below.refl _ _⟩
        case round =>
          obtain ⟨j, ta, bb, hjm, rfl, rfl, rfl, hseen, hb2⟩ := hrel
          have hel : e < wf.heap.size := lt_of_cell' HZ.out.1
          have l0 : e < wr.heap.size := Nat.lt_of_lt_of_le hel hb2.size
          have qe := (hb2.cell (p := ⟨e, 1, none⟩) hel).trans HZ.out.1
          have c1 : ∀ w', Below wr.heap.size wr w' → w'.cell? ⟨e, 1, none⟩ = some (.slice AZ m cz) := fun w' hb => (hb.cell (p := ⟨e, 1, none⟩) l0).trans qe
          have HB2 := Lib.hid hb2
          by_cases hj : j < m
          · obtain ⟨x, hx⟩ : ∃ x, zs[j]? = some x := ⟨zs[j]'(by rw [← HZ.out.2.2]; exact hj), List.getElem?_eq_getElem _⟩
            obtain ⟨bz, oz, rfl, s1, s2⟩ := (HZ.out.2.1.later hb2 (Nat.le_refl _)).here j x hx
            have hob : OpB wr p ⟨1, id, t⟩ := (hb2.block p HF.out.2.1.lt).trans HF.out.2.1
            have lp := hob.lt
            have qo := hob.cell 1
            have qo : wr.cell? ⟨p, 1, none⟩ = some (.int .i64 id) := qo
            have y0 : ∀ w', Below wr.heap.size wr w' → w'.cell? ⟨p, 1, none⟩ = some (.int .i64 id) := fun w' hb => (hb.cell (p := ⟨p, 1, none⟩) lp).trans qo
            have l1 := lt_of_cell' s1
            have y1 : ∀ w', Below wr.heap.size wr w' → w'.cell? ⟨bz, oz + j * 2, none⟩ = some (.int .i64 x.id) := fun w' hb => (hb.cell (p := ⟨bz, oz + j * 2, none⟩) l1).trans s1
            have y2 : ∀ w', Below wr.heap.size wr w' → w'.cell? ⟨bz, oz + j * 2 + 1, none⟩ = some (.int .u64 x.at_) := fun w' hb => (hb.cell (p := ⟨bz, oz + j * 2 + 1, none⟩) l1).trans s2
            have hj2 : (j : Int) < (m : Int) := by omega
            have HX := Lib.hid (And.intro hx hseen)
            clear hx hseen hob hb2 s1 qo l1 lp l0 hel
            obtain ⟨xi, xt⟩ := x
            dsimp only at y1 y2 s2
            by_cases hxi : xi = id
            · have hxb : (xi == id) = true := by simpa using hxi
              have HI := Lib.hid hxi
              clear hxi
              go_wp2_with fail
              have hS : Below wr.heap.size wr wr.drew := below_of_drew (Below.refl _ _)
              have HS2 := Lib.hid (HB2.out.trans (hS.mono HB2.out.size))
              have f1 := c1 _ hS
              have f2 := y2 _ hS
              refine rg_begin (fun w' => Below wr.heap.size wr w') 11 (by kernel_rfl) rfl ?_
              refine rg_take 0 (v := ?rv12) rfl (by kernel_rfl) (by kernel_rfl) (by kernel_rfl) (fun _ _ _ h => h) (by rfl) hS (fun w2 hw2 => ?ry12) ?rr12
              case ry12 => ((try dsimp only at hw2); go_simp <;> with_reducible rfl)
              simp only [Act.put, List.setIfInBounds_toArray, List.set_cons_zero, List.set_cons_succ]
              refine rg_take 1 (v := ?rv13) rfl (by kernel_rfl) (by kernel_rfl) (by kernel_rfl) (fun _ _ _ h => h) (by rfl) hS (fun w2 hw2 => ?ry13) ?rr13
              case ry13 => ((try dsimp only at hw2); go_simp <;> with_reducible rfl)
              simp only [Act.put, List.setIfInBounds_toArray, List.set_cons_zero, List.set_cons_succ]
              refine rg_take 2 (v := ?rv14) rfl (by kernel_rfl) (by kernel_rfl) (by kernel_rfl) (fun _ _ _ h => h) (by rfl) hS (fun w2 hw2 => ?ry14) ?rr14
              case ry14 => ((try dsimp only at hw2); go_simp <;> with_reducible rfl)
              simp only [Act.put, List.setIfInBounds_toArray, List.set_cons_zero, List.set_cons_succ]
              refine rg_take 3 (v := ?rv15) rfl (by kernel_rfl) (by kernel_rfl) (by kernel_rfl) (fun _ _ _ h => h) (by rfl) hS (fun w2 hw2 => ?ry15) ?rr15
              case ry15 => ((try dsimp only at hw2); go_simp <;> with_reducible rfl)
              simp only [Act.put, List.setIfInBounds_toArray, List.set_cons_zero, List.set_cons_succ]
              refine rg_take 4 (v := ?rv16) rfl (by kernel_rfl) (by kernel_rfl) (by kernel_rfl) (fun _ _ _ h => h) (by rfl) hS (fun w2 hw2 => ?ry16) ?rr16
              case ry16 => ((try dsimp only at hw2); go_simp <;> with_reducible rfl)
              simp only [Act.put, List.setIfInBounds_toArray, List.set_cons_zero, List.set_cons_succ]
              refine rg_take 5 (v := ?rv17) rfl (by kernel_rfl) (by kernel_rfl) (by kernel_rfl) (fun _ _ _ h => h) (by rfl) hS (fun w2 hw2 => ?ry17) ?rr17
              case ry17 => ((try dsimp only at hw2); go_simp <;> with_reducible rfl)
              simp only [Act.put, List.setIfInBounds_toArray, List.set_cons_zero, List.set_cons_succ]
              refine rg_take 6 (v := ?rv18) rfl (by kernel_rfl) (by kernel_rfl) (by kernel_rfl) (fun _ _ _ h => h) (by rfl) hS (fun w2 hw2 => ?ry18) ?rr18
              case ry18 => ((try dsimp only at hw2); go_simp <;> with_reducible rfl)
              simp only [Act.put, List.setIfInBounds_toArray, List.set_cons_zero, List.set_cons_succ]
              refine rg_take 7 (v := ?rv19) rfl (by kernel_rfl) (by kernel_rfl) (by kernel_rfl) (fun _ _ _ h => h) (by rfl) hS (fun w2 hw2 => ?ry19) ?rr19
              case ry19 => ((try dsimp only at hw2); go_simp <;> with_reducible rfl)
              simp only [Act.put, List.setIfInBounds_toArray, List.set_cons_zero, List.set_cons_succ]
              refine rg_take 8 (v := ?rv20) rfl (by kernel_rfl) (by kernel_rfl) (by kernel_rfl) (fun _ _ _ h => h) (by rfl) hS (fun w2 hw2 => ?ry20) ?rr20
              case ry20 => ((try dsimp only at hw2); go_simp <;> with_reducible rfl)
              simp only [Act.put, List.setIfInBounds_toArray, List.set_cons_zero, List.set_cons_succ]
              refine rg_take 9 (v := ?rv21) rfl (by kernel_rfl) (by kernel_rfl) (by kernel_rfl) (fun _ _ _ h => h) (by rfl) hS (fun w2 hw2 => ?ry21) ?rr21
              case ry21 => ((try dsimp only at hw2); go_simp <;> with_reducible rfl)
              simp only [Act.put, List.setIfInBounds_toArray, List.set_cons_zero, List.set_cons_succ]
              refine rg_take 10 (v := ?rv22) rfl (by kernel_rfl) (by kernel_rfl) (by kernel_rfl) (fun _ _ _ h => h) (by rfl) hS (fun w2 hw2 => ?ry22) ?rr22
              case ry22 => ((try dsimp only at hw2); go_simp <;> with_reducible rfl)
              simp only [Act.put, List.setIfInBounds_toArray, List.set_cons_zero, List.set_cons_succ]
              refine rg_done (by kernel_rfl) ?_
              clear c1 y0 y1 y2 hS
              go_wp2_with fail
              exact ⟨⟨j + 1, _, _, hj, rfl, rfl, by go_num, HX.out.2.yes HX.out.1 HI.out, HS2.out⟩, by simp [intOf]; omega⟩
            · have hxb : (xi == id) = false := by simpa using hxi
              have HI := Lib.hid hxi
              clear hxi
              go_wp2_with fail
              have hS : Below wr.heap.size wr wr.drew := below_of_drew (Below.refl _ _)
              have HS2 := Lib.hid (HB2.out.trans (hS.mono HB2.out.size))
              refine rg_begin (fun w' => Below wr.heap.size wr w') 11 (by kernel_rfl) rfl ?_
              refine rg_take 0 (v := ?rv23) rfl (by kernel_rfl) (by kernel_rfl) (by kernel_rfl) (fun _ _ _ h => h) (by rfl) hS (fun w2 hw2 => ?ry23) ?rr23
              case ry23 => ((try dsimp only at hw2); go_simp <;> with_reducible rfl)
              simp only [Act.put, List.setIfInBounds_toArray, List.set_cons_zero, List.set_cons_succ]
              refine rg_take 1 (v := ?rv24) rfl (by kernel_rfl) (by kernel_rfl) (by kernel_rfl) (fun _ _ _ h => h) (by rfl) hS (fun w2 hw2 => ?ry24) ?rr24
              case ry24 => ((try dsimp only at hw2); go_simp <;> with_reducible rfl)
              simp only [Act.put, List.setIfInBounds_toArray, List.set_cons_zero, List.set_cons_succ]
              refine rg_take 2 (v := ?rv25) rfl (by kernel_rfl) (by kernel_rfl) (by kernel_rfl) (fun _ _ _ h => h) (by rfl) hS (fun w2 hw2 => ?ry25) ?rr25
              case ry25 => ((try dsimp only at hw2); go_simp <;> with_reducible rfl)
              simp only [Act.put, List.setIfInBounds_toArray, List.set_cons_zero, List.set_cons_succ]
              refine rg_take 3 (v := ?rv26) rfl (by kernel_rfl) (by kernel_rfl) (by kernel_rfl) (fun _ _ _ h => h) (by rfl) hS (fun w2 hw2 => ?ry26) ?rr26
              case ry26 => ((try dsimp only at hw2); go_simp <;> with_reducible rfl)
              simp only [Act.put, List.setIfInBounds_toArray, List.set_cons_zero, List.set_cons_succ]
              refine rg_take 4 (v := ?rv27) rfl (by kernel_rfl) (by kernel_rfl) (by kernel_rfl) (fun _ _ _ h => h) (by rfl) hS (fun w2 hw2 => ?ry27) ?rr27
              case ry27 => ((try dsimp only at hw2); go_simp <;> with_reducible rfl)
              simp only [Act.put, List.setIfInBounds_toArray, List.set_cons_zero, List.set_cons_succ]
              refine rg_take 5 (v := ?rv28) rfl (by kernel_rfl) (by kernel_rfl) (by kernel_rfl) (fun _ _ _ h => h) (by rfl) hS (fun w2 hw2 => ?ry28) ?rr28
              case ry28 => ((try dsimp only at hw2); go_simp <;> with_reducible rfl)
              simp only [Act.put, List.setIfInBounds_toArray, List.set_cons_zero, List.set_cons_succ]
              refine rg_take 6 (v := ?rv29) rfl (by kernel_rfl) (by kernel_rfl) (by kernel_rfl) (fun _ _ _ h => h) (by rfl) hS (fun w2 hw2 => ?ry29) ?rr29
              case ry29 => ((try dsimp only at hw2); go_simp <;> with_reducible rfl)
              simp only [Act.put, List.setIfInBounds_toArray, List.set_cons_zero, List.set_cons_succ]
              refine rg_take 7 (v := ?rv30) rfl (by kernel_rfl) (by kernel_rfl) (by kernel_rfl) (fun _ _ _ h => h) (by rfl) hS (fun w2 hw2 => ?ry30) ?rr30
              case ry30 => ((try dsimp only at hw2); go_simp <;> with_reducible rfl)
              simp only [Act.put, List.setIfInBounds_toArray, List.set_cons_zero, List.set_cons_succ]
              refine rg_take 8 (v := ?rv31) rfl (by kernel_rfl) (by kernel_rfl) (by kernel_rfl) (fun _ _ _ h => h) (by rfl) hS (fun w2 hw2 => ?ry31) ?rr31
              case ry31 => ((try dsimp only at hw2); go_simp <;> with_reducible rfl)
              simp only [Act.put, List.setIfInBounds_toArray, List.set_cons_zero, List.set_cons_succ]
              refine rg_take 9 (v := ?rv32) rfl (by kernel_rfl) (by kernel_rfl) (by kernel_rfl) (fun _ _ _ h => h) (by rfl) hS (fun w2 hw2 => ?ry32) ?rr32
              case ry32 => ((try dsimp only at hw2); go_simp <;> with_reducible rfl)
              simp only [Act.put, List.setIfInBounds_toArray, List.set_cons_zero, List.set_cons_succ]
              refine rg_take 10 (v := ?rv33) rfl (by kernel_rfl) (by kernel_rfl) (by kernel_rfl) (fun _ _ _ h => h) (by rfl) hS (fun w2 hw2 => ?ry33) ?rr33
              case ry33 => ((try dsimp only at hw2); go_simp <;> with_reducible rfl)
              simp only [Act.put, List.setIfInBounds_toArray, List.set_cons_zero, List.set_cons_succ]
              refine rg_done (by kernel_rfl) ?_
              clear c1 y0 y1 y2 hS
              go_wp2_with fail
              exact ⟨⟨j + 1, _, _, hj, rfl, rfl, by go_num, HX.out.2.no HX.out.1 HI.out, HS2.out⟩, by simp [intOf]; omega⟩
          · obtain rfl : j = m := by omega
            have hend := Seen.end_ HPS.out.uniq (HZ.out.2.2 ▸ hseen)
            rw [HAT.out] at hend
            obtain ⟨rfl, rfl⟩ : at1 = ta ∧ ab = bb := by simpa using hend
            have HC := Lib.hid (And.intro (HPS.out.later (HF.out.1.trans (hb2.mono HF.out.1.size))) (And.intro (HF.out.2.2.1.later hb2 (Nat.le_refl _)) (HF.out.2.2.2.later hb2 (Nat.le_refl _))))
            have hjj : ¬ ((j : Int) < (j : Int)) := by omega
            clear hend hseen hb2 hjm hj hel l0
            go_wp2_with fail
            have hS : Below wr.heap.size wr wr.drew := below_of_drew (Below.refl _ _)
            have z1 : (at1 != at1) = false := by simp
            have z2 : (ab != ab) = false := by simp
            have z3 : (nb != nb) = false := by simp
            have z4 : (ni == ni) = true := by simp
            have z5 : (nt == nt) = true := by simp
            have z6 := neqEn
            refine rg_begin (fun w' => Below wr.heap.size wr w') 32 (by kernel_rfl) rfl ?_
            obtain ⟨W2, hW2⟩ : ∃ W2, wr.drew = W2 := ⟨_, rfl⟩
            rw [hW2] at hS ⊢
            clear hW2
            refine rg_take 0 (v := ?rv34) rfl (by kernel_rfl) (by kernel_rfl) (by kernel_rfl) (fun _ _ _ h => h) (by rfl) hS (fun w2 hw2 => ?ry34) ?rr34
            case ry34 => ((try dsimp only at hw2); go_simp <;> with_reducible rfl)
            simp only [Act.put, List.setIfInBounds_toArray, List.set_cons_zero, List.set_cons_succ]
            refine rg_take 1 (v := ?rv35) rfl (by kernel_rfl) (by kernel_rfl) (by kernel_rfl) (fun _ _ _ h => h) (by rfl) hS (fun w2 hw2 => ?ry35) ?rr35
            case ry35 => ((try dsimp only at hw2); go_simp <;> with_reducible rfl)
            simp only [Act.put, List.setIfInBounds_toArray, List.set_cons_zero, List.set_cons_succ]
            refine rg_take 2 (v := ?rv36) rfl (by kernel_rfl) (by kernel_rfl) (by kernel_rfl) (fun _ _ _ h => h) (by rfl) hS (fun w2 hw2 => ?ry36) ?rr36
            case ry36 => ((try dsimp only at hw2); go_simp <;> with_reducible rfl)
            simp only [Act.put, List.setIfInBounds_toArray, List.set_cons_zero, List.set_cons_succ]
            refine rg_load 3 rfl (by kernel_rfl) (by kernel_rfl) (by kernel_rfl) (wa.heap.size) (0) (#[.int .i64 ni, .int .u64 nt]) (fun _ _ _ h => h) (by rfl) 45 (.tmp 10) rfl rfl hS (fun w2 h2 => (HC.out.2.1.later h2 (Nat.le_refl _)).range) Tryd.underlying45 rfl (by kernel_rfl) ?_
            simp only [Act.put, List.setIfInBounds_toArray, List.set_cons_zero, List.set_cons_succ]
            refine rg_load 4 rfl (by kernel_rfl) (by kernel_rfl) (by kernel_rfl) (wc.heap.size) (0) (#[.int .i64 ni, .int .u64 nt]) (fun _ _ _ h => h) (by rfl) 45 (.tmp 12) rfl rfl hS (fun w2 h2 => (HC.out.2.2.later h2 (Nat.le_refl _)).range) Tryd.underlying45 rfl (by kernel_rfl) ?_
            simp only [Act.put, List.setIfInBounds_toArray, List.set_cons_zero, List.set_cons_succ]
            refine rg_take 5 (v := ?rv37) rfl (by kernel_rfl) (by kernel_rfl) (by kernel_rfl) (fun _ _ _ h => h) (by rfl) hS (fun w2 hw2 => ?ry37) ?rr37
            case ry37 => ((try dsimp only at hw2); go_simp <;> with_reducible rfl)
            simp only [Act.put, List.setIfInBounds_toArray, List.set_cons_zero, List.set_cons_succ]
            refine rg_take 6 (v := ?rv38) rfl (by kernel_rfl) (by kernel_rfl) (by kernel_rfl) (fun _ _ _ h => h) (by rfl) hS (fun w2 hw2 => ?ry38) ?rr38
            case ry38 => ((try dsimp only at hw2); go_simp <;> with_reducible rfl)
            simp only [Act.put, List.setIfInBounds_toArray, List.set_cons_zero, List.set_cons_succ]
            refine rg_take 7 (v := ?rv39) rfl (by kernel_rfl) (by kernel_rfl) (by kernel_rfl) (fun _ _ _ h => h) (by rfl) hS (fun w2 hw2 => ?ry39) ?rr39
            case ry39 => ((try dsimp only at hw2); go_simp <;> with_reducible rfl)
            simp only [Act.put, List.setIfInBounds_toArray, List.set_cons_zero, List.set_cons_succ]
            refine rg_take 8 (v := ?rv40) rfl (by kernel_rfl) (by kernel_rfl) (by kernel_rfl) (fun _ _ _ h => h) (by rfl) hS (fun w2 hw2 => ?ry40) ?rr40
            case ry40 => ((try dsimp only at hw2); go_simp <;> with_reducible rfl)
            simp only [Act.put, List.setIfInBounds_toArray, List.set_cons_zero, List.set_cons_succ]
            refine rg_take 9 (v := ?rv41) rfl (by kernel_rfl) (by kernel_rfl) (by kernel_rfl) (fun _ _ _ h => h) (by rfl) hS (fun w2 hw2 => ?ry41) ?rr41
            case ry41 => ((try dsimp only at hw2); go_simp <;> with_reducible rfl)
            simp only [Act.put, List.setIfInBounds_toArray, List.set_cons_zero, List.set_cons_succ]
            refine rg_take 10 (v := ?rv42) rfl (by kernel_rfl) (by kernel_rfl) (by kernel_rfl) (fun _ _ _ h => h) (by rfl) hS (fun w2 hw2 => ?ry42) ?rr42
            case ry42 => ((try dsimp only at hw2); go_simp <;> with_reducible rfl)
            simp only [Act.put, List.setIfInBounds_toArray, List.set_cons_zero, List.set_cons_succ]
            refine rg_take 11 (v := ?rv43) rfl (by kernel_rfl) (by kernel_rfl) (by kernel_rfl) (fun _ _ _ h => h) (by rfl) hS (fun w2 hw2 => ?ry43) ?rr43
            case ry43 => ((try dsimp only at hw2); go_simp <;> with_reducible rfl)
            simp only [Act.put, List.setIfInBounds_toArray, List.set_cons_zero, List.set_cons_succ]
            refine rg_take 12 (v := ?rv44) rfl (by kernel_rfl) (by kernel_rfl) (by kernel_rfl) (fun _ _ _ h => h) (by rfl) hS (fun w2 hw2 => ?ry44) ?rr44
            case ry44 => ((try dsimp only at hw2); go_simp <;> with_reducible rfl)
            simp only [Act.put, List.setIfInBounds_toArray, List.set_cons_zero, List.set_cons_succ]
            refine rg_take 13 (v := ?rv45) rfl (by kernel_rfl) (by kernel_rfl) (by kernel_rfl) (fun _ _ _ h => h) (by rfl) hS (fun w2 hw2 => ?ry45) ?rr45
            case ry45 => ((try dsimp only at hw2); go_simp <;> with_reducible rfl)
            simp only [Act.put, List.setIfInBounds_toArray, List.set_cons_zero, List.set_cons_succ]
            refine rg_take 15 (v := ?rv46) rfl (by kernel_rfl) (by kernel_rfl) (by kernel_rfl) (fun _ _ _ h => h) (by rfl) hS (fun w2 hw2 => ?ry46) ?rr46
            case ry46 => ((try dsimp only at hw2); go_simp <;> with_reducible rfl)
            simp only [Act.put, List.setIfInBounds_toArray, List.set_cons_zero, List.set_cons_succ]
            refine rg_take 16 (v := ?rv47) rfl (by kernel_rfl) (by kernel_rfl) (by kernel_rfl) (fun _ _ _ h => h) (by rfl) hS (fun w2 hw2 => ?ry47) ?rr47
            case ry47 => ((try dsimp only at hw2); go_simp <;> with_reducible rfl)
            simp only [Act.put, List.setIfInBounds_toArray, List.set_cons_zero, List.set_cons_succ]
            refine rg_take 17 (v := ?rv48) rfl (by kernel_rfl) (by kernel_rfl) (by kernel_rfl) (fun _ _ _ h => h) (by rfl) hS (fun w2 hw2 => ?ry48) ?rr48
            case ry48 => ((try dsimp only at hw2); go_simp <;> with_reducible rfl)
            simp only [Act.put, List.setIfInBounds_toArray, List.set_cons_zero, List.set_cons_succ]
            refine rg_take 18 (v := ?rv49) rfl (by kernel_rfl) (by kernel_rfl) (by kernel_rfl) (fun _ _ _ h => h) (by rfl) hS (fun w2 hw2 => ?ry49) ?rr49
            case ry49 => ((try dsimp only at hw2); go_simp <;> with_reducible rfl)
            simp only [Act.put, List.setIfInBounds_toArray, List.set_cons_zero, List.set_cons_succ]
            refine rg_take 19 (v := ?rv50) rfl (by kernel_rfl) (by kernel_rfl) (by kernel_rfl) (fun _ _ _ h => h) (by rfl) hS (fun w2 hw2 => ?ry50) ?rr50
            case ry50 => ((try dsimp only at hw2); go_simp <;> with_reducible rfl)
            simp only [Act.put, List.setIfInBounds_toArray, List.set_cons_zero, List.set_cons_succ]
            have HS2 := Lib.hid (HC.out.1.later hS)
            refine rg_step 14 rfl (by kernel_rfl) (by rfl) (fun K hK => ?_)
            go_simp
            refine (HS2.out.qlen).mono ?_
            rintro ev w' ⟨rfl, rfl⟩
            rw [← HZ.out.2.2]
            refine hK.out _ _ hS ?_
            clear hK K
            try simp only [Act.put, List.setIfInBounds_toArray, List.set_cons_zero, List.set_cons_succ]
            refine rg_take 20 (v := ?rv51) rfl (by kernel_rfl) (by kernel_rfl) (by kernel_rfl) (fun _ _ _ h => h) (by rfl) hS (fun w2 hw2 => ?ry51) ?rr51
            case ry51 => ((try dsimp only at hw2); go_simp <;> with_reducible rfl)
            simp only [Act.put, List.setIfInBounds_toArray, List.set_cons_zero, List.set_cons_succ]
            refine rg_take 21 (v := ?rv52) rfl (by kernel_rfl) (by kernel_rfl) (by kernel_rfl) (fun _ _ _ h => h) (by rfl) hS (fun w2 hw2 => ?ry52) ?rr52
            case ry52 => ((try dsimp only at hw2); go_simp <;> with_reducible rfl)
            simp only [Act.put, List.setIfInBounds_toArray, List.set_cons_zero, List.set_cons_succ]
            refine rg_take 22 (v := ?rv53) rfl (by kernel_rfl) (by kernel_rfl) (by kernel_rfl) (fun _ _ _ h => h) (by rfl) hS (fun w2 hw2 => ?ry53) ?rr53
            case ry53 => ((try dsimp only at hw2); go_simp <;> with_reducible rfl)
            simp only [Act.put, List.setIfInBounds_toArray, List.set_cons_zero, List.set_cons_succ]
            refine rg_take 23 (v := ?rv54) rfl (by kernel_rfl) (by kernel_rfl) (by kernel_rfl) (fun _ _ _ h => h) (by rfl) hS (fun w2 hw2 => ?ry54) ?rr54
            case ry54 => ((try dsimp only at hw2); go_simp <;> with_reducible rfl)
            simp only [Act.put, List.setIfInBounds_toArray, List.set_cons_zero, List.set_cons_succ]
            refine rg_take 24 (v := ?rv55) rfl (by kernel_rfl) (by kernel_rfl) (by kernel_rfl) (fun _ _ _ h => h) (by rfl) hS (fun w2 hw2 => ?ry55) ?rr55
            case ry55 => ((try dsimp only at hw2); go_simp <;> with_reducible rfl)
            simp only [Act.put, List.setIfInBounds_toArray, List.set_cons_zero, List.set_cons_succ]
            refine rg_take 25 (v := ?rv56) rfl (by kernel_rfl) (by kernel_rfl) (by kernel_rfl) (fun _ _ _ h => h) (by rfl) hS (fun w2 hw2 => ?ry56) ?rr56
            case ry56 => ((try dsimp only at hw2); go_simp <;> with_reducible rfl)
            simp only [Act.put, List.setIfInBounds_toArray, List.set_cons_zero, List.set_cons_succ]
            refine rg_take 26 (v := ?rv57) rfl (by kernel_rfl) (by kernel_rfl) (by kernel_rfl) (fun _ _ _ h => h) (by rfl) hS (fun w2 hw2 => ?ry57) ?rr57
            case ry57 => ((try dsimp only at hw2); go_simp <;> with_reducible rfl)
            simp only [Act.put, List.setIfInBounds_toArray, List.set_cons_zero, List.set_cons_succ]
            refine rg_take 27 (v := ?rv58) rfl (by kernel_rfl) (by kernel_rfl) (by kernel_rfl) (fun _ _ _ h => h) (by rfl) hS (fun w2 hw2 => ?ry58) ?rr58
            case ry58 => ((try dsimp only at hw2); go_simp <;> with_reducible rfl)
            simp only [Act.put, List.setIfInBounds_toArray, List.set_cons_zero, List.set_cons_succ]
            refine rg_take 28 (v := ?rv59) rfl (by kernel_rfl) (by kernel_rfl) (by kernel_rfl) (fun _ _ _ h => h) (by rfl) hS (fun w2 hw2 => ?ry59) ?rr59
            case ry59 => ((try dsimp only at hw2); go_simp <;> with_reducible rfl)
            simp only [Act.put, List.setIfInBounds_toArray, List.set_cons_zero, List.set_cons_succ]
            refine rg_take 29 (v := ?rv60) rfl (by kernel_rfl) (by kernel_rfl) (by kernel_rfl) (fun _ _ _ h => h) (by rfl) hS (fun w2 hw2 => ?ry60) ?rr60
            case ry60 => ((try dsimp only at hw2); go_simp <;> with_reducible rfl)
            simp only [Act.put, List.setIfInBounds_toArray, List.set_cons_zero, List.set_cons_succ]
            refine rg_take 30 (v := ?rv61) rfl (by kernel_rfl) (by kernel_rfl) (by kernel_rfl) (fun _ _ _ h => h) (by rfl) hS (fun w2 hw2 => ?ry61) ?rr61
            case ry61 => ((try dsimp only at hw2); go_simp <;> with_reducible rfl)
            simp only [Act.put, List.setIfInBounds_toArray, List.set_cons_zero, List.set_cons_succ]
            refine rg_take 31 (v := ?rv62) rfl (by kernel_rfl) (by kernel_rfl) (by kernel_rfl) (fun _ _ _ h => h) (by rfl) hS (fun w2 hw2 => ?ry62) ?rr62
            case ry62 => ((try dsimp only at hw2); go_simp <;> with_reducible rfl)
            simp only [Act.put, List.setIfInBounds_toArray, List.set_cons_zero, List.set_cons_succ]
            refine rg_done (by kernel_rfl) ?_
            clear c1 hS z1 z2 z3 z4 z5 z6
            go_wp2_with fail
            exact ⟨⟨k + 1, zs, hkn, by omega, by go_num, hzl, HS2.out⟩, by simp [intOf]; omega⟩
      · have k1b : (kd == 1) = false := by simpa using k1
        by_cases k2 : kd = 2
        · subst k2
          go_wp2_with (first | (rw [HW.out.1, HW.out.2]))
          have HD := Lib.hid (HPB.out.later (below_of_drew (Below.refl _ W5)))
          obtain ⟨W6, hW6⟩ : ∃ W6, W5.drew = W6 := ⟨_, rfl⟩
          rw [hW6] at HD
          have hS := HD.out.op
          refine rg_begin (fun w' => OpB w' p ⟨2, id, t⟩) 10 (by kernel_rfl) rfl ?_
          rw [hW6]
          clear hW6
          refine rg_take 0 (v := ?rv63) rfl (by kernel_rfl) (by kernel_rfl) (by kernel_rfl) (fun _ _ _ h => h) (by rfl) hS (fun w2 hw2 => ?ry63) ?rr63
          case ry63 => ((try dsimp only at hw2); go_simp <;> with_reducible rfl)
          simp only [Act.put, List.setIfInBounds_toArray, List.set_cons_zero, List.set_cons_succ]
          refine rg_take 1 (v := ?rv64) rfl (by kernel_rfl) (by kernel_rfl) (by kernel_rfl) (fun _ _ _ h => h) (by rfl) hS (fun w2 hw2 => ?ry64) ?rr64
          case ry64 => ((try dsimp only at hw2); go_simp <;> with_reducible rfl)
          simp only [Act.put, List.setIfInBounds_toArray, List.set_cons_zero, List.set_cons_succ]
          refine rg_take 2 (v := ?rv65) rfl (by kernel_rfl) (by kernel_rfl) (by kernel_rfl) (fun _ _ _ h => h) (by rfl) hS (fun w2 hw2 => ?ry65) ?rr65
          case ry65 => ((try dsimp only at hw2); go_simp <;> with_reducible rfl)
          simp only [Act.put, List.setIfInBounds_toArray, List.set_cons_zero, List.set_cons_succ]
          refine rg_take 4 (v := ?rv66) rfl (by kernel_rfl) (by kernel_rfl) (by kernel_rfl) (fun _ _ _ h => h) (by rfl) hS (fun w2 hw2 => ?ry66) ?rr66
          case ry66 => ((try dsimp only at hw2); go_simp <;> with_reducible rfl)
          simp only [Act.put, List.setIfInBounds_toArray, List.set_cons_zero, List.set_cons_succ]
          refine rg_take 5 (v := ?rv67) rfl (by kernel_rfl) (by kernel_rfl) (by kernel_rfl) (fun _ _ _ h => h) (by rfl) hS (fun w2 hw2 => ?ry67) ?rr67
          case ry67 => ((try dsimp only at hw2); go_simp <;> with_reducible rfl)
          simp only [Act.put, List.setIfInBounds_toArray, List.set_cons_zero, List.set_cons_succ]
          refine rg_take 6 (v := ?rv68) rfl (by kernel_rfl) (by kernel_rfl) (by kernel_rfl) (fun _ _ _ h => h) (by rfl) hS (fun w2 hw2 => ?ry68) ?rr68
          case ry68 => ((try dsimp only at hw2); go_simp <;> with_reducible rfl)
          simp only [Act.put, List.setIfInBounds_toArray, List.set_cons_zero, List.set_cons_succ]
          refine rg_step 3 rfl (by kernel_rfl) (by rfl) (fun K hK => ?_)
          go_simp
          refine (HD.out.qcancel id).mono ?_
          rintro ev w7 ⟨rfl, p7⟩
          have H7 := Lib.hid p7
          replace hS := p7.op
          clear p7 HD
          refine hK.out _ _ hS ?_
          clear hK K
          try simp only [Act.put, List.setIfInBounds_toArray, List.set_cons_zero, List.set_cons_succ]
          refine rg_step 7 rfl (by kernel_rfl) (by rfl) (fun K hK => ?_)
          go_simp
          refine (H7.out.tcancel hy1 id).mono ?_
          rintro ev w8 ⟨rfl, p8⟩
          have H8 := Lib.hid p8
          replace hS := p8.op
          clear p8 H7
          refine hK.out _ _ hS ?_
          clear hK K
          try simp only [Act.put, List.setIfInBounds_toArray, List.set_cons_zero, List.set_cons_succ]
          refine rg_step 8 rfl (by kernel_rfl) (by rfl) (fun K hK => ?_)
          go_simp
          refine (is_res (HO.out.2.later H8.out.below (Nat.le_refl _)) id (hasC ys id)).mono ?_
          rintro ev w9 ⟨rfl, b9⟩
          have HPC := Lib.hid (H8.out.later b9)
          have hzl : (cancelE ys id).length ≤ k + 1 := by have := cancelE_le ys id; omega
          clear b9 H8
          replace hS := HPC.out.op
          refine hK.out _ _ hS ?_
          clear hK K
          try simp only [Act.put, List.setIfInBounds_toArray, List.set_cons_zero, List.set_cons_succ]
          refine rg_take 9 (v := ?rv69) rfl (by kernel_rfl) (by kernel_rfl) (by kernel_rfl) (fun _ _ _ h => h) (by rfl) hS (fun w2 hw2 => ?ry69) ?rr69
          case ry69 => ((try dsimp only at hw2); go_simp <;> with_reducible rfl)
          simp only [Act.put, List.setIfInBounds_toArray, List.set_cons_zero, List.set_cons_succ]
          refine rg_done (by kernel_rfl) ?_
          clear hS
          obtain ⟨zs, hzs⟩ : ∃ l, l = cancelE ys id := ⟨_, rfl⟩
          rw [← hzs] at HPC hzl
          have HPS := Lib.hid HPC.out.base
          have HOP := Lib.hid HPC.out.op
          clear hzs HPC
          have hz1 : zs.length ≤ 100000 := by omega
          obtain ⟨ni, nt, nb, hR⟩ := nextR_tup (nextV zs)
          obtain ⟨at1, ab, hA⟩ := atR_tup (atV zs id)
          have KN1 : Hid (Calls Tryd.prog 18 #[.pointer (some ⟨g, 0, none⟩)] w9 fun ev w'' => ev = .returned (.tuple #[.agg #[.int .i64 ni, .int .u64 nt], .bool nb]) ∧ Below w9.heap.size w9 w'') := by
            have h := HPS.out.qnext
            rw [hR] at h
            exact h
          have KN2 : Hid (∀ w', Below w9.heap.size w9 w' → Calls Tryd.prog 19 #[.pointer (some ⟨e, 0, none⟩)] w' fun ev w'' => ev = .returned (.tuple #[.agg #[.int .i64 ni, .int .u64 nt], .bool nb]) ∧ Below w'.heap.size w' w'') := fun w' hb => by
            have h := (HPS.out.later hb).tnext hz1
            rw [hR] at h
            exact h
          have KA : Hid (∀ w', Below w9.heap.size w9 w' → Calls Tryd.prog 20 #[.pointer (some ⟨g, 0, none⟩), .int .i64 id] w' fun ev w'' => ev = .returned (.tuple #[.int .u64 at1, .bool ab]) ∧ Below w'.heap.size w' w'') := fun w' hb => by
            have h := (HPS.out.later hb).qat id
            rw [hA] at h
            exact h
          have HAT := Lib.hid hA
          clear hR hA q0 q1 q2 x0 x1 x2 hkn2 hk120 HPB
          go_wp2_with (refine KN1.out.mono ?_; rintro ev wa ⟨rfl, ba⟩; have BA := Lib.hid ba; clear ba)
          obtain ⟨Wb, hWb⟩ : ∃ W, wa.alloc (.cells #[.int .i64 ni, .int .u64 nt] 45) = W := ⟨_, rfl⟩
          have hEa : EnB Wb wa.heap.size ni nt := hWb ▸ heap_alloc_new wa _
          have hBb : Below w9.heap.size w9 Wb := hWb ▸ BA.out.alloc BA.out.size _
          rw [hWb]
          clear hWb
          refine (KN2.out Wb hBb).mono ?_
          rintro ev wc ⟨rfl, bc⟩
          have HBc := Lib.hid (hBb.trans (bc.mono hBb.size))
          have HEc := Lib.hid (hEa.later bc (Nat.le_refl _))
          clear hEa hBb bc KN1 KN2 BA
          go_wp2_with (first
            | (refine wpList_alloc_enB rfl rfl ?_
               intro wd ad bd sd
               have HD1 := Lib.hid (And.intro ad (And.intro bd sd))
               clear ad bd sd)
            | (refine wpList_store_enB rfl (.tmp 12) (.tmp 104) rfl ni nt rfl rfl HD1.out.1 ?_
               intro we ae me se
               have HBe : Below w9.heap.size w9 we := below_of_new (HBc.out.trans (HD1.out.2.1.mono HBc.out.size)) me HBc.out.size
               have HPe : OpB we p ⟨2, id, t⟩ := (HBe.block p HOP.out.lt).trans HOP.out
               have q1 := HPe.cell 1
               have q1 : we.cell? ⟨p, 1, none⟩ = some (.int .i64 id) := q1
               have HXe : EnB we wa.heap.size ni nt := (me.block wa.heap.size (Nat.lt_of_lt_of_le HEc.out.lt HD1.out.2.1.size) (Nat.ne_of_lt HEc.out.lt) (by simp)).trans (HEc.out.later HD1.out.2.1 (Nat.le_refl _))
               have HE1 := Lib.hid (And.intro HBe (And.intro HPe (And.intro HXe ae)))
               clear ae me se HBe HPe HXe))
          clear q1
          refine (KA.out we HE1.out.1).mono ?_
          rintro ev wf ⟨rfl, bf⟩
          have hof : OpB wf p ⟨2, id, t⟩ := (bf.block p HE1.out.2.1.lt).trans HE1.out.2.1
          have HF := Lib.hid (And.intro (HE1.out.1.trans (bf.mono HE1.out.1.size)) (And.intro hof (And.intro (HE1.out.2.2.1.later bf (Nat.le_refl _)) (HE1.out.2.2.2.later bf (Nat.le_refl _)))))
          clear bf KA HD1 hof
          obtain ⟨m, hm⟩ : ∃ m, m = zs.length := ⟨_, rfl⟩
          have hrow := (HPS.out.later HF.out.1).row
          rw [← hm] at hrow
          obtain ⟨AZ, cz, qz, sz⟩ := hrow
          have hmm : m ≤ 1000 := by omega
          have HZ := Lib.hid (And.intro qz (And.intro sz hm))
          clear qz sz hm HE1 HBc HEc
          go_wp2_with fail
          go_loopw [16, 17, 18] (fun a1 a2 a3 wr => ∃ (j : Nat) (ta : Int) (bb : Bool), j ≤ m ∧ a1 = .int .u64 ta ∧ a2 = .bool bb ∧ a3 = .int .i64 j ∧ Seen zs id j ta bb ∧ Below wf.heap.size wf wr) (fun _ _ a3 _ => m - (intOf a3).toNat)
          case atStart => exact ⟨0, 0, false, Nat.zero_le _, rfl, rfl, rfl, .inl ⟨rfl, rfl, fun j x h => absurd h (by omega)⟩, Below.refl _ _⟩
          case round =>
            obtain ⟨j, ta, bb, hjm, rfl, rfl, rfl, hseen, hb2⟩ := hrel
            have hel : e < wf.heap.size := lt_of_cell' HZ.out.1
            have l0 : e < wr.heap.size := Nat.lt_of_lt_of_le hel hb2.size
            have qe := (hb2.cell (p := ⟨e, 1, none⟩) hel).trans HZ.out.1
            have c1 : ∀ w', Below wr.heap.size wr w' → w'.cell? ⟨e, 1, none⟩ = some (.slice AZ m cz) := fun w' hb => (hb.cell (p := ⟨e, 1, none⟩) l0).trans qe
            have HB2 := Lib.hid hb2
            by_cases hj : j < m
            · obtain ⟨x, hx⟩ : ∃ x, zs[j]? = some x := ⟨zs[j]'(by rw [← HZ.out.2.2]; exact hj), List.getElem?_eq_getElem _⟩
              obtain ⟨bz, oz, rfl, s1, s2⟩ := (HZ.out.2.1.later hb2 (Nat.le_refl _)).here j x hx
              have hob : OpB wr p ⟨2, id, t⟩ := (hb2.block p HF.out.2.1.lt).trans HF.out.2.1
              have lp := hob.lt
              have qo := hob.cell 1
              have qo : wr.cell? ⟨p, 1, none⟩ = some (.int .i64 id) := qo
              have y0 : ∀ w', Below wr.heap.size wr w' → w'.cell? ⟨p, 1, none⟩ = some (.int .i64 id) := fun w' hb => (hb.cell (p := ⟨p, 1, none⟩) lp).trans qo
              have l1 := lt_of_cell' s1
              have y1 : ∀ w', Below wr.heap.size wr w' → w'.cell? ⟨bz, oz + j * 2, none⟩ = some (.int .i64 x.id) := fun w' hb => (hb.cell (p := ⟨bz, oz + j * 2, none⟩) l1).trans s1
              have y2 : ∀ w', Below wr.heap.size wr w' → w'.cell? ⟨bz, oz + j * 2 + 1, none⟩ = some (.int .u64 x.at_) := fun w' hb => (hb.cell (p := ⟨bz, oz + j * 2 + 1, none⟩) l1).trans s2
              have hj2 : (j : Int) < (m : Int) := by omega
              have HX := Lib.hid (And.intro hx hseen)
              clear hx hseen hob hb2 s1 qo l1 lp l0 hel
              obtain ⟨xi, xt⟩ := x
              dsimp only at y1 y2 s2
              by_cases hxi : xi = id
              · have hxb : (xi == id) = true := by simpa using hxi
                have HI := Lib.hid hxi
                clear hxi
                go_wp2_with fail
                have hS : Below wr.heap.size wr wr.drew := below_of_drew (Below.refl _ _)
                have HS2 := Lib.hid (HB2.out.trans (hS.mono HB2.out.size))
                have f1 := c1 _ hS
                have f2 := y2 _ hS
                refine rg_begin (fun w' => Below wr.heap.size wr w') 11 (by kernel_rfl) rfl ?_
                refine rg_take 0 (v := ?rv70) rfl (by kernel_rfl) (by kernel_rfl) (by kernel_rfl) (fun _ _ _ h => h) (by rfl) hS (fun w2 hw2 => ?ry70) ?rr70
                case ry70 => ((try dsimp only at hw2); go_simp <;> with_reducible rfl)
                simp only [Act.put, List.setIfInBounds_toArray, List.set_cons_zero, List.set_cons_succ]
                refine rg_take 1 (v := ?rv71) rfl (by kernel_rfl) (by kernel_rfl) (by kernel_rfl) (fun _ _ _ h => h) (by rfl) hS (fun w2 hw2 => ?ry71) ?rr71
                case ry71 => ((try dsimp only at hw2); go_simp <;> with_reducible rfl)
                simp only [Act.put, List.setIfInBounds_toArray, List.set_cons_zero, List.set_cons_succ]
                refine rg_take 2 (v := ?rv72) rfl (by kernel_rfl) (by kernel_rfl) (by kernel_rfl) (fun _ _ _ h => h) (by rfl) hS (fun w2 hw2 => ?ry72) ?rr72
                case ry72 => ((try dsimp only at hw2); go_simp <;> with_reducible rfl)
                simp only [Act.put, List.setIfInBounds_toArray, List.set_cons_zero, List.set_cons_succ]
                refine rg_take 3 (v := ?rv73) rfl (by kernel_rfl) (by kernel_rfl) (by kernel_rfl) (fun _ _ _ h => h) (by rfl) hS (fun w2 hw2 => ?ry73) ?rr73
                case ry73 => ((try dsimp only at hw2); go_simp <;> with_reducible rfl)
                simp only [Act.put, List.setIfInBounds_toArray, List.set_cons_zero, List.set_cons_succ]
                refine rg_take 4 (v := ?rv74) rfl (by kernel_rfl) (by kernel_rfl) (by kernel_rfl) (fun _ _ _ h => h) (by rfl) hS (fun w2 hw2 => ?ry74) ?rr74
                case ry74 => ((try dsimp only at hw2); go_simp <;> with_reducible rfl)
                simp only [Act.put, List.setIfInBounds_toArray, List.set_cons_zero, List.set_cons_succ]
                refine rg_take 5 (v := ?rv75) rfl (by kernel_rfl) (by kernel_rfl) (by kernel_rfl) (fun _ _ _ h => h) (by rfl) hS (fun w2 hw2 => ?ry75) ?rr75
                case ry75 => ((try dsimp only at hw2); go_simp <;> with_reducible rfl)
                simp only [Act.put, List.setIfInBounds_toArray, List.set_cons_zero, List.set_cons_succ]
                refine rg_take 6 (v := ?rv76) rfl (by kernel_rfl) (by kernel_rfl) (by kernel_rfl) (fun _ _ _ h => h) (by rfl) hS (fun w2 hw2 => ?ry76) ?rr76
                case ry76 => ((try dsimp only at hw2); go_simp <;> with_reducible rfl)
                simp only [Act.put, List.setIfInBounds_toArray, List.set_cons_zero, List.set_cons_succ]
                refine rg_take 7 (v := ?rv77) rfl (by kernel_rfl) (by kernel_rfl) (by kernel_rfl) (fun _ _ _ h => h) (by rfl) hS (fun w2 hw2 => ?ry77) ?rr77
                case ry77 => ((try dsimp only at hw2); go_simp <;> with_reducible rfl)
                simp only [Act.put, List.setIfInBounds_toArray, List.set_cons_zero, List.set_cons_succ]
                refine rg_take 8 (v := ?rv78) rfl (by kernel_rfl) (by kernel_rfl) (by kernel_rfl) (fun _ _ _ h => h) (by rfl) hS (fun w2 hw2 => ?ry78) ?rr78
                case ry78 => ((try dsimp only at hw2); go_simp <;> with_reducible rfl)
                simp only [Act.put, List.setIfInBounds_toArray, List.set_cons_zero, List.set_cons_succ]
                refine rg_take 9 (v := ?rv79) rfl (by kernel_rfl) (by kernel_rfl) (by kernel_rfl) (fun _ _ _ h => h) (by rfl) hS (fun w2 hw2 => ?ry79) ?rr79
                case ry79 => ((try dsimp only at hw2); go_simp <;> with_reducible rfl)
                simp only [Act.put, List.setIfInBounds_toArray, List.set_cons_zero, List.set_cons_succ]
                refine rg_take 10 (v := ?rv80) rfl (by kernel_rfl) (by kernel_rfl) (by kernel_rfl) (fun _ _ _ h => h) (by rfl) hS (fun w2 hw2 => ?ry80) ?rr80
                case ry80 => ((try dsimp only at hw2); go_simp <;> with_reducible rfl)
                simp only [Act.put, List.setIfInBounds_toArray, List.set_cons_zero, List.set_cons_succ]
                refine rg_done (by kernel_rfl) ?_
                clear c1 y0 y1 y2 hS
                go_wp2_with fail
                exact ⟨⟨j + 1, _, _, hj, rfl, rfl, by go_num, HX.out.2.yes HX.out.1 HI.out, HS2.out⟩, by simp [intOf]; omega⟩
              · have hxb : (xi == id) = false := by simpa using hxi
                have HI := Lib.hid hxi
                clear hxi
                go_wp2_with fail
                have hS : Below wr.heap.size wr wr.drew := below_of_drew (Below.refl _ _)
                have HS2 := Lib.hid (HB2.out.trans (hS.mono HB2.out.size))
                refine rg_begin (fun w' => Below wr.heap.size wr w') 11 (by kernel_rfl) rfl ?_
                refine rg_take 0 (v := ?rv81) rfl (by kernel_rfl) (by kernel_rfl) (by kernel_rfl) (fun _ _ _ h => h) (by rfl) hS (fun w2 hw2 => ?ry81) ?rr81
                case ry81 => ((try dsimp only at hw2); go_simp <;> with_reducible rfl)
                simp only [Act.put, List.setIfInBounds_toArray, List.set_cons_zero, List.set_cons_succ]
                refine rg_take 1 (v := ?rv82) rfl (by kernel_rfl) (by kernel_rfl) (by kernel_rfl) (fun _ _ _ h => h) (by rfl) hS (fun w2 hw2 => ?ry82) ?rr82
                case ry82 => ((try dsimp only at hw2); go_simp <;> with_reducible rfl)
                simp only [Act.put, List.setIfInBounds_toArray, List.set_cons_zero, List.set_cons_succ]
                refine rg_take 2 (v := ?rv83) rfl (by kernel_rfl) (by kernel_rfl) (by kernel_rfl) (fun _ _ _ h => h) (by rfl) hS (fun w2 hw2 => ?ry83) ?rr83
                case ry83 => ((try dsimp only at hw2); go_simp <;> with_reducible rfl)
                simp only [Act.put, List.setIfInBounds_toArray, List.set_cons_zero, List.set_cons_succ]
                refine rg_take 3 (v := ?rv84) rfl (by kernel_rfl) (by kernel_rfl) (by kernel_rfl) (fun _ _ _ h => h) (by rfl) hS (fun w2 hw2 => ?ry84) ?rr84
                case ry84 => ((try dsimp only at hw2); go_simp <;> with_reducible rfl)
                simp only [Act.put, List.setIfInBounds_toArray, List.set_cons_zero, List.set_cons_succ]
                refine rg_take 4 (v := ?rv85) rfl (by kernel_rfl) (by kernel_rfl) (by kernel_rfl) (fun _ _ _ h => h) (by rfl) hS (fun w2 hw2 => ?ry85) ?rr85
                case ry85 => ((try dsimp only at hw2); go_simp <;> with_reducible rfl)
                simp only [Act.put, List.setIfInBounds_toArray, List.set_cons_zero, List.set_cons_succ]
                refine rg_take 5 (v := ?rv86) rfl (by kernel_rfl) (by kernel_rfl) (by kernel_rfl) (fun _ _ _ h => h) (by rfl) hS (fun w2 hw2 => ?ry86) ?rr86
                case ry86 => ((try dsimp only at hw2); go_simp <;> with_reducible rfl)
                simp only [Act.put, List.setIfInBounds_toArray, List.set_cons_zero, List.set_cons_succ]
                refine rg_take 6 (v := ?rv87) rfl (by kernel_rfl) (by kernel_rfl) (by kernel_rfl) (fun _ _ _ h => h) (by rfl) hS (fun w2 hw2 => ?ry87) ?rr87
                case ry87 => ((try dsimp only at hw2); go_simp <;> with_reducible rfl)
                simp only [Act.put, List.setIfInBounds_toArray, List.set_cons_zero, List.set_cons_succ]
                refine rg_take 7 (v := ?rv88) rfl (by kernel_rfl) (by kernel_rfl) (by kernel_rfl) (fun _ _ _ h => h) (by rfl) hS (fun w2 hw2 => ?ry88) ?rr88
                case ry88 => ((try dsimp only at hw2); go_simp <;> with_reducible rfl)
                simp only [Act.put, List.setIfInBounds_toArray, List.set_cons_zero, List.set_cons_succ]
                refine rg_take 8 (v := ?rv89) rfl (by kernel_rfl) (by kernel_rfl) (by kernel_rfl) (fun _ _ _ h => h) (by rfl) hS (fun w2 hw2 => ?ry89) ?rr89
                case ry89 => ((try dsimp only at hw2); go_simp <;> with_reducible rfl)
                simp only [Act.put, List.setIfInBounds_toArray, List.set_cons_zero, List.set_cons_succ]
                refine rg_take 9 (v := ?rv90) rfl (by kernel_rfl) (by kernel_rfl) (by kernel_rfl) (fun _ _ _ h => h) (by rfl) hS (fun w2 hw2 => ?ry90) ?rr90
                case ry90 => ((try dsimp only at hw2); go_simp <;> with_reducible rfl)
                simp only [Act.put, List.setIfInBounds_toArray, List.set_cons_zero, List.set_cons_succ]
                refine rg_take 10 (v := ?rv91) rfl (by kernel_rfl) (by kernel_rfl) (by kernel_rfl) (fun _ _ _ h => h) (by rfl) hS (fun w2 hw2 => ?ry91) ?rr91
                case ry91 => ((try dsimp only at hw2); go_simp <;> with_reducible rfl)
                simp only [Act.put, List.setIfInBounds_toArray, List.set_cons_zero, List.set_cons_succ]
                refine rg_done (by kernel_rfl) ?_
                clear c1 y0 y1 y2 hS
                go_wp2_with fail
                exact ⟨⟨j + 1, _, _, hj, rfl, rfl, by go_num, HX.out.2.no HX.out.1 HI.out, HS2.out⟩, by simp [intOf]; omega⟩
            · obtain rfl : j = m := by omega
              have hend := Seen.end_ HPS.out.uniq (HZ.out.2.2 ▸ hseen)
              rw [HAT.out] at hend
              obtain ⟨rfl, rfl⟩ : at1 = ta ∧ ab = bb := by simpa using hend
              have HC := Lib.hid (And.intro (HPS.out.later (HF.out.1.trans (hb2.mono HF.out.1.size))) (And.intro (HF.out.2.2.1.later hb2 (Nat.le_refl _)) (HF.out.2.2.2.later hb2 (Nat.le_refl _))))
              have hjj : ¬ ((j : Int) < (j : Int)) := by omega
              clear hend hseen hb2 hjm hj hel l0
              go_wp2_with fail
              have hS : Below wr.heap.size wr wr.drew := below_of_drew (Below.refl _ _)
              have z1 : (at1 != at1) = false := by simp
              have z2 : (ab != ab) = false := by simp
              have z3 : (nb != nb) = false := by simp
              have z4 : (ni == ni) = true := by simp
              have z5 : (nt == nt) = true := by simp
              have z6 := neqEn
              refine rg_begin (fun w' => Below wr.heap.size wr w') 32 (by kernel_rfl) rfl ?_
              obtain ⟨W2, hW2⟩ : ∃ W2, wr.drew = W2 := ⟨_, rfl⟩
              rw [hW2] at hS ⊢
              clear hW2
              refine rg_take 0 (v := ?rv92) rfl (by kernel_rfl) (by kernel_rfl) (by kernel_rfl) (fun _ _ _ h => h) (by rfl) hS (fun w2 hw2 => ?ry92) ?rr92
              case ry92 => ((try dsimp only at hw2); go_simp <;> with_reducible rfl)
              simp only [Act.put, List.setIfInBounds_toArray, List.set_cons_zero, List.set_cons_succ]
              refine rg_take 1 (v := ?rv93) rfl (by kernel_rfl) (by kernel_rfl) (by kernel_rfl) (fun _ _ _ h => h) (by rfl) hS (fun w2 hw2 => ?ry93) ?rr93
              case ry93 => ((try dsimp only at hw2); go_simp <;> with_reducible rfl)
              simp only [Act.put, List.setIfInBounds_toArray, List.set_cons_zero, List.set_cons_succ]
              refine rg_take 2 (v := ?rv94) rfl (by kernel_rfl) (by kernel_rfl) (by kernel_rfl) (fun _ _ _ h => h) (by rfl) hS (fun w2 hw2 => ?ry94) ?rr94
              case ry94 => ((try dsimp only at hw2); go_simp <;> with_reducible rfl)
              simp only [Act.put, List.setIfInBounds_toArray, List.set_cons_zero, List.set_cons_succ]
              refine rg_load 3 rfl (by kernel_rfl) (by kernel_rfl) (by kernel_rfl) (wa.heap.size) (0) (#[.int .i64 ni, .int .u64 nt]) (fun _ _ _ h => h) (by rfl) 45 (.tmp 10) rfl rfl hS (fun w2 h2 => (HC.out.2.1.later h2 (Nat.le_refl _)).range) Tryd.underlying45 rfl (by kernel_rfl) ?_
              simp only [Act.put, List.setIfInBounds_toArray, List.set_cons_zero, List.set_cons_succ]
              refine rg_load 4 rfl (by kernel_rfl) (by kernel_rfl) (by kernel_rfl) (wc.heap.size) (0) (#[.int .i64 ni, .int .u64 nt]) (fun _ _ _ h => h) (by rfl) 45 (.tmp 12) rfl rfl hS (fun w2 h2 => (HC.out.2.2.later h2 (Nat.le_refl _)).range) Tryd.underlying45 rfl (by kernel_rfl) ?_
              simp only [Act.put, List.setIfInBounds_toArray, List.set_cons_zero, List.set_cons_succ]
              refine rg_take 5 (v := ?rv95) rfl (by kernel_rfl) (by kernel_rfl) (by kernel_rfl) (fun _ _ _ h => h) (by rfl) hS (fun w2 hw2 => ?ry95) ?rr95
              case ry95 => ((try dsimp only at hw2); go_simp <;> with_reducible rfl)
              simp only [Act.put, List.setIfInBounds_toArray, List.set_cons_zero, List.set_cons_succ]
              refine rg_take 6 (v := ?rv96) rfl (by kernel_rfl) (by kernel_rfl) (by kernel_rfl) (fun _ _ _ h => h) (by rfl) hS (fun w2 hw2 => ?ry96) ?rr96
              case ry96 => ((try dsimp only at hw2); go_simp <;> with_reducible rfl)
              simp only [Act.put, List.setIfInBounds_toArray, List.set_cons_zero, List.set_cons_succ]
              refine rg_take 7 (v := ?rv97) rfl (by kernel_rfl) (by kernel_rfl) (by kernel_rfl) (fun _ _ _ h => h) (by rfl) hS (fun w2 hw2 => ?ry97) ?rr97
              case ry97 => ((try dsimp only at hw2); go_simp <;> with_reducible rfl)
              simp only [Act.put, List.setIfInBounds_toArray, List.set_cons_zero, List.set_cons_succ]
              refine rg_take 8 (v := ?rv98) rfl (by kernel_rfl) (by kernel_rfl) (by kernel_rfl) (fun _ _ _ h => h) (by rfl) hS (fun w2 hw2 => ?ry98) ?rr98
              case ry98 => ((try dsimp only at hw2); go_simp <;> with_reducible rfl)
              simp only [Act.put, List.setIfInBounds_toArray, List.set_cons_zero, List.set_cons_succ]
              refine rg_take 9 (v := ?rv99) rfl (by kernel_rfl) (by kernel_rfl) (by kernel_rfl) (fun _ _ _ h => h) (by rfl) hS (fun w2 hw2 => ?ry99) ?rr99
              case ry99 => ((try dsimp only at hw2); go_simp <;> with_reducible rfl)
              simp only [Act.put, List.setIfInBounds_toArray, List.set_cons_zero, List.set_cons_succ]
              refine rg_take 10 (v := ?rv100) rfl (by kernel_rfl) (by kernel_rfl) (by kernel_rfl) (fun _ _ _ h => h) (by rfl) hS (fun w2 hw2 => ?ry100) ?rr100
              case ry100 => ((try dsimp only at hw2); go_simp <;> with_reducible rfl)
              simp only [Act.put, List.setIfInBounds_toArray, List.set_cons_zero, List.set_cons_succ]
              refine rg_take 11 (v := ?rv101) rfl (by kernel_rfl) (by kernel_rfl) (by kernel_rfl) (fun _ _ _ h => h) (by rfl) hS (fun w2 hw2 => ?ry101) ?rr101
              case ry101 => ((try dsimp only at hw2); go_simp <;> with_reducible rfl)
              simp only [Act.put, List.setIfInBounds_toArray, List.set_cons_zero, List.set_cons_succ]
              refine rg_take 12 (v := ?rv102) rfl (by kernel_rfl) (by kernel_rfl) (by kernel_rfl) (fun _ _ _ h => h) (by rfl) hS (fun w2 hw2 => ?ry102) ?rr102
              case ry102 => ((try dsimp only at hw2); go_simp <;> with_reducible rfl)
              simp only [Act.put, List.setIfInBounds_toArray, List.set_cons_zero, List.set_cons_succ]
              refine rg_take 13 (v := ?rv103) rfl (by kernel_rfl) (by kernel_rfl) (by kernel_rfl) (fun _ _ _ h => h) (by rfl) hS (fun w2 hw2 => ?ry103) ?rr103
              case ry103 => ((try dsimp only at hw2); go_simp <;> with_reducible rfl)
              simp only [Act.put, List.setIfInBounds_toArray, List.set_cons_zero, List.set_cons_succ]
              refine rg_take 15 (v := ?rv104) rfl (by kernel_rfl) (by kernel_rfl) (by kernel_rfl) (fun _ _ _ h => h) (by rfl) hS (fun w2 hw2 => ?ry104) ?rr104
              case ry104 => ((try dsimp only at hw2); go_simp <;> with_reducible rfl)
              simp only [Act.put, List.setIfInBounds_toArray, List.set_cons_zero, List.set_cons_succ]
              refine rg_take 16 (v := ?rv105) rfl (by kernel_rfl) (by kernel_rfl) (by kernel_rfl) (fun _ _ _ h => h) (by rfl) hS (fun w2 hw2 => ?ry105) ?rr105
              case ry105 => ((try dsimp only at hw2); go_simp <;> with_reducible rfl)
              simp only [Act.put, List.setIfInBounds_toArray, List.set_cons_zero, List.set_cons_succ]
              refine rg_take 17 (v := ?rv106) rfl (by kernel_rfl) (by kernel_rfl) (by kernel_rfl) (fun _ _ _ h => h) (by rfl) hS (fun w2 hw2 => ?ry106) ?rr106
              case ry106 => ((try dsimp only at hw2); go_simp <;> with_reducible rfl)
              simp only [Act.put, List.setIfInBounds_toArray, List.set_cons_zero, List.set_cons_succ]
              refine rg_take 18 (v := ?rv107) rfl (by kernel_rfl) (by kernel_rfl) (by kernel_rfl) (fun _ _ _ h => h) (by rfl) hS (fun w2 hw2 => ?ry107) ?rr107
              case ry107 => ((try dsimp only at hw2); go_simp <;> with_reducible rfl)
              simp only [Act.put, List.setIfInBounds_toArray, List.set_cons_zero, List.set_cons_succ]
              refine rg_take 19 (v := ?rv108) rfl (by kernel_rfl) (by kernel_rfl) (by kernel_rfl) (fun _ _ _ h => h) (by rfl) hS (fun w2 hw2 => ?ry108) ?rr108
              case ry108 => ((try dsimp only at hw2); go_simp <;> with_reducible rfl)
              simp only [Act.put, List.setIfInBounds_toArray, List.set_cons_zero, List.set_cons_succ]
              have HS2 := Lib.hid (HC.out.1.later hS)
              refine rg_step 14 rfl (by kernel_rfl) (by rfl) (fun K hK => ?_)
              go_simp
              refine (HS2.out.qlen).mono ?_
              rintro ev w' ⟨rfl, rfl⟩
              rw [← HZ.out.2.2]
              refine hK.out _ _ hS ?_
              clear hK K
              try simp only [Act.put, List.setIfInBounds_toArray, List.set_cons_zero, List.set_cons_succ]
              refine rg_take 20 (v := ?rv109) rfl (by kernel_rfl) (by kernel_rfl) (by kernel_rfl) (fun _ _ _ h => h) (by rfl) hS (fun w2 hw2 => ?ry109) ?rr109
              case ry109 => ((try dsimp only at hw2); go_simp <;> with_reducible rfl)
              simp only [Act.put, List.setIfInBounds_toArray, List.set_cons_zero, List.set_cons_succ]
              refine rg_take 21 (v := ?rv110) rfl (by kernel_rfl) (by kernel_rfl) (by kernel_rfl) (fun _ _ _ h => h) (by rfl) hS (fun w2 hw2 => ?ry110) ?rr110
              case ry110 => ((try dsimp only at hw2); go_simp <;> with_reducible rfl)
              simp only [Act.put, List.setIfInBounds_toArray, List.set_cons_zero, List.set_cons_succ]
              refine rg_take 22 (v := ?rv111) rfl (by kernel_rfl) (by kernel_rfl) (by kernel_rfl) (fun _ _ _ h => h) (by rfl) hS (fun w2 hw2 => ?ry111) ?rr111
              case ry111 => ((try dsimp only at hw2); go_simp <;> with_reducible rfl)
              simp only [Act.put, List.setIfInBounds_toArray, List.set_cons_zero, List.set_cons_succ]
              refine rg_take 23 (v := ?rv112) rfl (by kernel_rfl) (by kernel_rfl) (by kernel_rfl) (fun _ _ _ h => h) (by rfl) hS (fun w2 hw2 => ?ry112) ?rr112
              case ry112 => ((try dsimp only at hw2); go_simp <;> with_reducible rfl)
              simp only [Act.put, List.setIfInBounds_toArray, List.set_cons_zero, List.set_cons_succ]
              refine rg_take 24 (v := ?rv113) rfl (by kernel_rfl) (by kernel_rfl) (by kernel_rfl) (fun _ _ _ h => h) (by rfl) hS (fun w2 hw2 => ?ry113) ?rr113
              case ry113 => ((try dsimp only at hw2); go_simp <;> with_reducible rfl)
              simp only [Act.put, List.setIfInBounds_toArray, List.set_cons_zero, List.set_cons_succ]
              refine rg_take 25 (v := ?rv114) rfl (by kernel_rfl) (by kernel_rfl) (by kernel_rfl) (fun _ _ _ h => h) (by rfl) hS (fun w2 hw2 => ?ry114) ?rr114
              case ry114 => ((try dsimp only at hw2); go_simp <;> with_reducible rfl)
              simp only [Act.put, List.setIfInBounds_toArray, List.set_cons_zero, List.set_cons_succ]
              refine rg_take 26 (v := ?rv115) rfl (by kernel_rfl) (by kernel_rfl) (by kernel_rfl) (fun _ _ _ h => h) (by rfl) hS (fun w2 hw2 => ?ry115) ?rr115
              case ry115 => ((try dsimp only at hw2); go_simp <;> with_reducible rfl)
              simp only [Act.put, List.setIfInBounds_toArray, List.set_cons_zero, List.set_cons_succ]
              refine rg_take 27 (v := ?rv116) rfl (by kernel_rfl) (by kernel_rfl) (by kernel_rfl) (fun _ _ _ h => h) (by rfl) hS (fun w2 hw2 => ?ry116) ?rr116
              case ry116 => ((try dsimp only at hw2); go_simp <;> with_reducible rfl)
              simp only [Act.put, List.setIfInBounds_toArray, List.set_cons_zero, List.set_cons_succ]
              refine rg_take 28 (v := ?rv117) rfl (by kernel_rfl) (by kernel_rfl) (by kernel_rfl) (fun _ _ _ h => h) (by rfl) hS (fun w2 hw2 => ?ry117) ?rr117
              case ry117 => ((try dsimp only at hw2); go_simp <;> with_reducible rfl)
              simp only [Act.put, List.setIfInBounds_toArray, List.set_cons_zero, List.set_cons_succ]
              refine rg_take 29 (v := ?rv118) rfl (by kernel_rfl) (by kernel_rfl) (by kernel_rfl) (fun _ _ _ h => h) (by rfl) hS (fun w2 hw2 => ?ry118) ?rr118
              case ry118 => ((try dsimp only at hw2); go_simp <;> with_reducible rfl)
              simp only [Act.put, List.setIfInBounds_toArray, List.set_cons_zero, List.set_cons_succ]
              refine rg_take 30 (v := ?rv119) rfl (by kernel_rfl) (by kernel_rfl) (by kernel_rfl) (fun _ _ _ h => h) (by rfl) hS (fun w2 hw2 => ?ry119) ?rr119
              case ry119 => ((try dsimp only at hw2); go_simp <;> with_reducible rfl)
              simp only [Act.put, List.setIfInBounds_toArray, List.set_cons_zero, List.set_cons_succ]
              refine rg_take 31 (v := ?rv120) rfl (by kernel_rfl) (by kernel_rfl) (by kernel_rfl) (fun _ _ _ h => h) (by rfl) hS (fun w2 hw2 => ?ry120) ?rr120
              case ry120 => ((try dsimp only at hw2); go_simp <;> with_reducible rfl)
              simp only [Act.put, List.setIfInBounds_toArray, List.set_cons_zero, List.set_cons_succ]
              refine rg_done (by kernel_rfl) ?_
              clear c1 hS z1 z2 z3 z4 z5 z6
              go_wp2_with fail
              exact ⟨⟨k + 1, zs, hkn, by omega, by go_num, hzl, HS2.out⟩, by simp [intOf]; omega⟩
        · have k2b : (kd == 2) = false := by simpa using k2
          by_cases k3 : kd = 3
          · subst k3
            go_wp2_with (first | (rw [HW.out.1, HW.out.2]))
            have HD := Lib.hid (HPB.out.later (below_of_drew (Below.refl _ W5)))
            obtain ⟨W6, hW6⟩ : ∃ W6, W5.drew = W6 := ⟨_, rfl⟩
            rw [hW6] at HD
            have hS := HD.out.op
            refine rg_begin (fun w' => OpB w' p ⟨3, id, t⟩) 10 (by kernel_rfl) rfl ?_
            rw [hW6]
            clear hW6
            refine rg_take 0 (v := ?rv121) rfl (by kernel_rfl) (by kernel_rfl) (by kernel_rfl) (fun _ _ _ h => h) (by rfl) hS (fun w2 hw2 => ?ry121) ?rr121
            case ry121 => ((try dsimp only at hw2); go_simp <;> with_reducible rfl)
            simp only [Act.put, List.setIfInBounds_toArray, List.set_cons_zero, List.set_cons_succ]
            refine rg_take 1 (v := ?rv122) rfl (by kernel_rfl) (by kernel_rfl) (by kernel_rfl) (fun _ _ _ h => h) (by rfl) hS (fun w2 hw2 => ?ry122) ?rr122
            case ry122 => ((try dsimp only at hw2); go_simp <;> with_reducible rfl)
            simp only [Act.put, List.setIfInBounds_toArray, List.set_cons_zero, List.set_cons_succ]
            refine rg_take 2 (v := ?rv123) rfl (by kernel_rfl) (by kernel_rfl) (by kernel_rfl) (fun _ _ _ h => h) (by rfl) hS (fun w2 hw2 => ?ry123) ?rr123
            case ry123 => ((try dsimp only at hw2); go_simp <;> with_reducible rfl)
            simp only [Act.put, List.setIfInBounds_toArray, List.set_cons_zero, List.set_cons_succ]
            refine rg_take 4 (v := ?rv124) rfl (by kernel_rfl) (by kernel_rfl) (by kernel_rfl) (fun _ _ _ h => h) (by rfl) hS (fun w2 hw2 => ?ry124) ?rr124
            case ry124 => ((try dsimp only at hw2); go_simp <;> with_reducible rfl)
            simp only [Act.put, List.setIfInBounds_toArray, List.set_cons_zero, List.set_cons_succ]
            refine rg_take 5 (v := ?rv125) rfl (by kernel_rfl) (by kernel_rfl) (by kernel_rfl) (fun _ _ _ h => h) (by rfl) hS (fun w2 hw2 => ?ry125) ?rr125
            case ry125 => ((try dsimp only at hw2); go_simp <;> with_reducible rfl)
            simp only [Act.put, List.setIfInBounds_toArray, List.set_cons_zero, List.set_cons_succ]
            refine rg_take 6 (v := ?rv126) rfl (by kernel_rfl) (by kernel_rfl) (by kernel_rfl) (fun _ _ _ h => h) (by rfl) hS (fun w2 hw2 => ?ry126) ?rr126
            case ry126 => ((try dsimp only at hw2); go_simp <;> with_reducible rfl)
            simp only [Act.put, List.setIfInBounds_toArray, List.set_cons_zero, List.set_cons_succ]
            refine rg_step 3 rfl (by kernel_rfl) (by rfl) (fun K hK => ?_)
            go_simp
            refine (HD.out.qdue hy1 t).mono ?_
            rintro ev w7 ⟨v7, rfl, p7, o7, n7⟩
            have H7 := Lib.hid (And.intro p7 (And.intro o7 n7))
            replace hS := p7.op
            obtain ⟨A7, c7, rfl, _, _⟩ := EnS.of_own o7
            obtain ⟨n7', hn7⟩ : ∃ m, m = (dueL t ys).1.length := ⟨_, rfl⟩
            rw [← hn7] at H7 ⊢
            clear p7 o7 n7 HD
            refine hK.out _ _ hS ?_
            clear hK K
            try simp only [Act.put, List.setIfInBounds_toArray, List.set_cons_zero, List.set_cons_succ]
            refine rg_step 7 rfl (by kernel_rfl) (by rfl) (fun K hK => ?_)
            go_simp
            refine (H7.out.1.tdue hy1 t).mono ?_
            rintro ev w8 ⟨v8, rfl, p8, o8, m8⟩
            replace hS := p8.op
            have o7 := H7.out.2.1.kept fun b hb => m8.block b (H7.out.2.1.lt hb) (H7.out.2.2 b hb) (by simp)
            obtain ⟨A7', c7', e7, s7, _⟩ := EnS.of_own o7
            cases e7
            obtain ⟨A8, c8, rfl, s8, _⟩ := EnS.of_own o8
            rw [← hn7] at s7 s8 ⊢
            have H8 := Lib.hid (And.intro p8 (And.intro s7 s8))
            clear p8 o8 o7 m8 s7 s8 hn7
            refine hK.out _ _ hS ?_
            clear hK K
            try simp only [Act.put, List.setIfInBounds_toArray, List.set_cons_zero, List.set_cons_succ]
            refine rg_step 8 rfl (by kernel_rfl) (by rfl) (fun K hK => ?_)
            go_simp
            refine (plainE H8.out.2.1 H8.out.2.2).mono ?_
            rintro ev w9 ⟨rfl, b9⟩
            have HPC := Lib.hid (H8.out.1.later b9)
            have hzl : (dueL t ys).2.length ≤ k + 1 := by have := dueL_le t ys; omega
            clear b9 H8 H7
            replace hS := HPC.out.op
            refine hK.out _ _ hS ?_
            clear hK K
            try simp only [Act.put, List.setIfInBounds_toArray, List.set_cons_zero, List.set_cons_succ]
            refine rg_take 9 (v := ?rv127) rfl (by kernel_rfl) (by kernel_rfl) (by kernel_rfl) (fun _ _ _ h => h) (by rfl) hS (fun w2 hw2 => ?ry127) ?rr127
            case ry127 => ((try dsimp only at hw2); go_simp <;> with_reducible rfl)
            simp only [Act.put, List.setIfInBounds_toArray, List.set_cons_zero, List.set_cons_succ]
            refine rg_done (by kernel_rfl) ?_
            clear hS
            obtain ⟨zs, hzs⟩ : ∃ l, l = (dueL t ys).2 := ⟨_, rfl⟩
            rw [← hzs] at HPC hzl
            have HPS := Lib.hid HPC.out.base
            have HOP := Lib.hid HPC.out.op
            clear hzs HPC
            have hz1 : zs.length ≤ 100000 := by omega
            obtain ⟨ni, nt, nb, hR⟩ := nextR_tup (nextV zs)
            obtain ⟨at1, ab, hA⟩ := atR_tup (atV zs id)
            have KN1 : Hid (Calls Tryd.prog 18 #[.pointer (some ⟨g, 0, none⟩)] w9 fun ev w'' => ev = .returned (.tuple #[.agg #[.int .i64 ni, .int .u64 nt], .bool nb]) ∧ Below w9.heap.size w9 w'') := by
              have h := HPS.out.qnext
              rw [hR] at h
              exact h
            have KN2 : Hid (∀ w', Below w9.heap.size w9 w' → Calls Tryd.prog 19 #[.pointer (some ⟨e, 0, none⟩)] w' fun ev w'' => ev = .returned (.tuple #[.agg #[.int .i64 ni, .int .u64 nt], .bool nb]) ∧ Below w'.heap.size w' w'') := fun w' hb => by
              have h := (HPS.out.later hb).tnext hz1
              rw [hR] at h
              exact h
            have KA : Hid (∀ w', Below w9.heap.size w9 w' → Calls Tryd.prog 20 #[.pointer (some ⟨g, 0, none⟩), .int .i64 id] w' fun ev w'' => ev = .returned (.tuple #[.int .u64 at1, .bool ab]) ∧ Below w'.heap.size w' w'') := fun w' hb => by
              have h := (HPS.out.later hb).qat id
              rw [hA] at h
              exact h
            have HAT := Lib.hid hA
            clear hR hA q0 q1 q2 x0 x1 x2 hkn2 hk120 HPB
            go_wp2_with (refine KN1.out.mono ?_; rintro ev wa ⟨rfl, ba⟩; have BA := Lib.hid ba; clear ba)
            obtain ⟨Wb, hWb⟩ : ∃ W, wa.alloc (.cells #[.int .i64 ni, .int .u64 nt] 45) = W := ⟨_, rfl⟩
            have hEa : EnB Wb wa.heap.size ni nt := hWb ▸ heap_alloc_new wa _
            have hBb : Below w9.heap.size w9 Wb := hWb ▸ BA.out.alloc BA.out.size _
            rw [hWb]
            clear hWb
            refine (KN2.out Wb hBb).mono ?_
            rintro ev wc ⟨rfl, bc⟩
            have HBc := Lib.hid (hBb.trans (bc.mono hBb.size))
            have HEc := Lib.hid (hEa.later bc (Nat.le_refl _))
            clear hEa hBb bc KN1 KN2 BA
            go_wp2_with (first
              | (refine wpList_alloc_enB rfl rfl ?_
                 intro wd ad bd sd
                 have HD1 := Lib.hid (And.intro ad (And.intro bd sd))
                 clear ad bd sd)
              | (refine wpList_store_enB rfl (.tmp 12) (.tmp 104) rfl ni nt rfl rfl HD1.out.1 ?_
                 intro we ae me se
                 have HBe : Below w9.heap.size w9 we := below_of_new (HBc.out.trans (HD1.out.2.1.mono HBc.out.size)) me HBc.out.size
                 have HPe : OpB we p ⟨3, id, t⟩ := (HBe.block p HOP.out.lt).trans HOP.out
                 have q1 := HPe.cell 1
                 have q1 : we.cell? ⟨p, 1, none⟩ = some (.int .i64 id) := q1
                 have HXe : EnB we wa.heap.size ni nt := (me.block wa.heap.size (Nat.lt_of_lt_of_le HEc.out.lt HD1.out.2.1.size) (Nat.ne_of_lt HEc.out.lt) (by simp)).trans (HEc.out.later HD1.out.2.1 (Nat.le_refl _))
                 have HE1 := Lib.hid (And.intro HBe (And.intro HPe (And.intro HXe ae)))
                 clear ae me se HBe HPe HXe))
            clear q1
            refine (KA.out we HE1.out.1).mono ?_
            rintro ev wf ⟨rfl, bf⟩
            have hof : OpB wf p ⟨3, id, t⟩ := (bf.block p HE1.out.2.1.lt).trans HE1.out.2.1
            have HF := Lib.hid (And.intro (HE1.out.1.trans (bf.mono HE1.out.1.size)) (And.intro hof (And.intro (HE1.out.2.2.1.later bf (Nat.le_refl _)) (HE1.out.2.2.2.later bf (Nat.le_refl _)))))
            clear bf KA HD1 hof
            obtain ⟨m, hm⟩ : ∃ m, m = zs.length := ⟨_, rfl⟩
            have hrow := (HPS.out.later HF.out.1).row
            rw [← hm] at hrow
            obtain ⟨AZ, cz, qz, sz⟩ := hrow
            have hmm : m ≤ 1000 := by omega
            have HZ := Lib.hid (And.intro qz (And.intro sz hm))
            clear qz sz hm HE1 HBc HEc
            go_wp2_with fail
            go_loopw [16, 17, 18] (fun a1 a2 a3 wr => ∃ (j : Nat) (ta : Int) (bb : Bool), j ≤ m ∧ a1 = .int .u64 ta ∧ a2 = .bool bb ∧ a3 = .int .i64 j ∧ Seen zs id j ta bb ∧ Below wf.heap.size wf wr) (fun _ _ a3 _ => m - (intOf a3).toNat)
            case atStart => exact ⟨0, 0, false, Nat.zero_le _, rfl, rfl, rfl, .inl ⟨rfl, rfl, fun j x h => absurd h (by omega)⟩, Below.refl _ _⟩
            case round =>
              obtain ⟨j, ta, bb, hjm, rfl, rfl, rfl, hseen, hb2⟩ := hrel
              have hel : e < wf.heap.size := lt_of_cell' HZ.out.1
              have l0 : e < wr.heap.size := Nat.lt_of_lt_of_le hel hb2.size
              have qe := (hb2.cell (p := ⟨e, 1, none⟩) hel).trans HZ.out.1
              have c1 : ∀ w', Below wr.heap.size wr w' → w'.cell? ⟨e, 1, none⟩ = some (.slice AZ m cz) := fun w' hb => (hb.cell (p := ⟨e, 1, none⟩) l0).trans qe
              have HB2 := Lib.hid hb2
              by_cases hj : j < m
              · obtain ⟨x, hx⟩ : ∃ x, zs[j]? = some x := ⟨zs[j]'(by rw [← HZ.out.2.2]; exact hj), List.getElem?_eq_getElem _⟩
                obtain ⟨bz, oz, rfl, s1, s2⟩ := (HZ.out.2.1.later hb2 (Nat.le_refl _)).here j x hx
                have hob : OpB wr p ⟨3, id, t⟩ := (hb2.block p HF.out.2.1.lt).trans HF.out.2.1
                have lp := hob.lt
                have qo := hob.cell 1
                have qo : wr.cell? ⟨p, 1, none⟩ = some (.int .i64 id) := qo
                have y0 : ∀ w', Below wr.heap.size wr w' → w'.cell? ⟨p, 1, none⟩ = some (.int .i64 id) := fun w' hb => (hb.cell (p := ⟨p, 1, none⟩) lp).trans qo
                have l1 := lt_of_cell' s1
                have y1 : ∀ w', Below wr.heap.size wr w' → w'.cell? ⟨bz, oz + j * 2, none⟩ = some (.int .i64 x.id) := fun w' hb => (hb.cell (p := ⟨bz, oz + j * 2, none⟩) l1).trans s1
                have y2 : ∀ w', Below wr.heap.size wr w' → w'.cell? ⟨bz, oz + j * 2 + 1, none⟩ = some (.int .u64 x.at_) := fun w' hb => (hb.cell (p := ⟨bz, oz + j * 2 + 1, none⟩) l1).trans s2
                have hj2 : (j : Int) < (m : Int) := by omega
                have HX := Lib.hid (And.intro hx hseen)
                clear hx hseen hob hb2 s1 qo l1 lp l0 hel
                obtain ⟨xi, xt⟩ := x
                dsimp only at y1 y2 s2
                by_cases hxi : xi = id
                · have hxb : (xi == id) = true := by simpa using hxi
                  have HI := Lib.hid hxi
                  clear hxi
                  go_wp2_with fail
                  have hS : Below wr.heap.size wr wr.drew := below_of_drew (Below.refl _ _)
                  have HS2 := Lib.hid (HB2.out.trans (hS.mono HB2.out.size))
                  have f1 := c1 _ hS
                  have f2 := y2 _ hS
                  refine rg_begin (fun w' => Below wr.heap.size wr w') 11 (by kernel_rfl) rfl ?_
                  refine rg_take 0 (v := ?rv128) rfl (by kernel_rfl) (by kernel_rfl) (by kernel_rfl) (fun _ _ _ h => h) (by rfl) hS (fun w2 hw2 => ?ry128) ?rr128
                  case ry128 => ((try dsimp only at hw2); go_simp <;> with_reducible rfl)
                  simp only [Act.put, List.setIfInBounds_toArray, List.set_cons_zero, List.set_cons_succ]
                  refine rg_take 1 (v := ?rv129) rfl (by kernel_rfl) (by kernel_rfl) (by kernel_rfl) (fun _ _ _ h => h) (by rfl) hS (fun w2 hw2 => ?ry129) ?rr129
                  case ry129 => ((try dsimp only at hw2); go_simp <;> with_reducible rfl)
                  simp only [Act.put, List.setIfInBounds_toArray, List.set_cons_zero, List.set_cons_succ]
                  refine rg_take 2 (v := ?rv130) rfl (by kernel_rfl) (by kernel_rfl) (by kernel_rfl) (fun _ _ _ h => h) (by rfl) hS (fun w2 hw2 => ?ry130) ?rr130
                  case ry130 => ((try dsimp only at hw2); go_simp <;> with_reducible rfl)
                  simp only [Act.put, List.setIfInBounds_toArray, List.set_cons_zero, List.set_cons_succ]
                  refine rg_take 3 (v := ?rv131) rfl (by kernel_rfl) (by kernel_rfl) (by kernel_rfl) (fun _ _ _ h => h) (by rfl) hS (fun w2 hw2 => ?ry131) ?rr131
                  case ry131 => ((try dsimp only at hw2); go_simp <;> with_reducible rfl)
                  simp only [Act.put, List.setIfInBounds_toArray, List.set_cons_zero, List.set_cons_succ]
                  refine rg_take 4 (v := ?rv132) rfl (by kernel_rfl) (by kernel_rfl) (by kernel_rfl) (fun _ _ _ h => h) (by rfl) hS (fun w2 hw2 => ?ry132) ?rr132
                  case ry132 => ((try dsimp only at hw2); go_simp <;> with_reducible rfl)
                  simp only [Act.put, List.setIfInBounds_toArray, List.set_cons_zero, List.set_cons_succ]
                  refine rg_take 5 (v := ?rv133) rfl (by kernel_rfl) (by kernel_rfl) (by kernel_rfl) (fun _ _ _ h => h) (by rfl) hS (fun w2 hw2 => ?ry133) ?rr133
                  case ry133 => ((try dsimp only at hw2); go_simp <;> with_reducible rfl)
                  simp only [Act.put, List.setIfInBounds_toArray, List.set_cons_zero, List.set_cons_succ]
                  refine rg_take 6 (v := ?rv134) rfl (by kernel_rfl) (by kernel_rfl) (by kernel_rfl) (fun _ _ _ h => h) (by rfl) hS (fun w2 hw2 => ?ry134) ?rr134
                  case ry134 => ((try dsimp only at hw2); go_simp <;> with_reducible rfl)
                  simp only [Act.put, List.setIfInBounds_toArray, List.set_cons_zero, List.set_cons_succ]
                  refine rg_take 7 (v := ?rv135) rfl (by kernel_rfl) (by kernel_rfl) (by kernel_rfl) (fun _ _ _ h => h) (by rfl) hS (fun w2 hw2 => ?ry135) ?rr135
                  case ry135 => ((try dsimp only at hw2); go_simp <;> with_reducible rfl)
                  simp only [Act.put, List.setIfInBounds_toArray, List.set_cons_zero, List.set_cons_succ]
                  refine rg_take 8 (v := ?rv136) rfl (by kernel_rfl) (by kernel_rfl) (by kernel_rfl) (fun _ _ _ h => h) (by rfl) hS (fun w2 hw2 => ?ry136) ?rr136
                  case ry136 => ((try dsimp only at hw2); go_simp <;> with_reducible rfl)
                  simp only [Act.put, List.setIfInBounds_toArray, List.set_cons_zero, List.set_cons_succ]
                  refine rg_take 9 (v := ?rv137) rfl (by kernel_rfl) (by kernel_rfl) (by kernel_rfl) (fun _ _ _ h => h) (by rfl) hS (fun w2 hw2 => ?ry137) ?rr137
                  case ry137 => ((try dsimp only at hw2); go_simp <;> with_reducible rfl)
                  simp only [Act.put, List.setIfInBounds_toArray, List.set_cons_zero, List.set_cons_succ]
                  refine rg_take 10 (v := ?rv138) rfl (by kernel_rfl) (by kernel_rfl) (by kernel_rfl) (fun _ _ _ h => h) (by rfl) hS (fun w2 hw2 => ?ry138) ?rr138
                  case ry138 => ((try dsimp only at hw2); go_simp <;> with_reducible rfl)
                  simp only [Act.put, List.setIfInBounds_toArray, List.set_cons_zero, List.set_cons_succ]
                  refine rg_done (by kernel_rfl) ?_
                  clear c1 y0 y1 y2 hS
                  go_wp2_with fail
                  exact ⟨⟨j + 1, _, _, hj, rfl, rfl, by go_num, HX.out.2.yes HX.out.1 HI.out, HS2.out⟩, by simp [intOf]; omega⟩
                · have hxb : (xi == id) = false := by simpa using hxi
                  have HI := Lib.hid hxi
                  clear hxi
                  go_wp2_with fail
                  have hS : Below wr.heap.size wr wr.drew := below_of_drew (Below.refl _ _)
                  have HS2 := Lib.hid (HB2.out.trans (hS.mono HB2.out.size))
                  refine rg_begin (fun w' => Below wr.heap.size wr w') 11 (by kernel_rfl) rfl ?_
                  refine rg_take 0 (v := ?rv139) rfl (by kernel_rfl) (by kernel_rfl) (by kernel_rfl) (fun _ _ _ h => h) (by rfl) hS (fun w2 hw2 => ?ry139) ?rr139
                  case ry139 => ((try dsimp only at hw2); go_simp <;> with_reducible rfl)
                  simp only [Act.put, List.setIfInBounds_toArray, List.set_cons_zero, List.set_cons_succ]
                  refine rg_take 1 (v := ?rv140) rfl (by kernel_rfl) (by kernel_rfl) (by kernel_rfl) (fun _ _ _ h => h) (by rfl) hS (fun w2 hw2 => ?ry140) ?rr140
                  case ry140 => ((try dsimp only at hw2); go_simp <;> with_reducible rfl)
                  simp only [Act.put, List.setIfInBounds_toArray, List.set_cons_zero, List.set_cons_succ]
                  refine rg_take 2 (v := ?rv141) rfl (by kernel_rfl) (by kernel_rfl) (by kernel_rfl) (fun _ _ _ h => h) (by rfl) hS (fun w2 hw2 => ?ry141) ?rr141
                  case ry141 => ((try dsimp only at hw2); go_simp <;> with_reducible rfl)
                  simp only [Act.put, List.setIfInBounds_toArray, List.set_cons_zero, List.set_cons_succ]
                  refine rg_take 3 (v := ?rv142) rfl (by kernel_rfl) (by kernel_rfl) (by kernel_rfl) (fun _ _ _ h => h) (by rfl) hS (fun w2 hw2 => ?ry142) ?rr142
                  case ry142 => ((try dsimp only at hw2); go_simp <;> with_reducible rfl)
                  simp only [Act.put, List.setIfInBounds_toArray, List.set_cons_zero, List.set_cons_succ]
                  refine rg_take 4 (v := ?rv143) rfl (by kernel_rfl) (by kernel_rfl) (by kernel_rfl) (fun _ _ _ h => h) (by rfl) hS (fun w2 hw2 => ?ry143) ?rr143
                  case ry143 => ((try dsimp only at hw2); go_simp <;> with_reducible rfl)
                  simp only [Act.put, List.setIfInBounds_toArray, List.set_cons_zero, List.set_cons_succ]
                  refine rg_take 5 (v := ?rv144) rfl (by kernel_rfl) (by kernel_rfl) (by kernel_rfl) (fun _ _ _ h => h) (by rfl) hS (fun w2 hw2 => ?ry144) ?rr144
                  case ry144 => ((try dsimp only at hw2); go_simp <;> with_reducible rfl)
                  simp only [Act.put, List.setIfInBounds_toArray, List.set_cons_zero, List.set_cons_succ]
                  refine rg_take 6 (v := ?rv145) rfl (by kernel_rfl) (by kernel_rfl) (by kernel_rfl) (fun _ _ _ h => h) (by rfl) hS (fun w2 hw2 => ?ry145) ?rr145
                  case ry145 => ((try dsimp only at hw2); go_simp <;> with_reducible rfl)
                  simp only [Act.put, List.setIfInBounds_toArray, List.set_cons_zero, List.set_cons_succ]
                  refine rg_take 7 (v := ?rv146) rfl (by kernel_rfl) (by kernel_rfl) (by kernel_rfl) (fun _ _ _ h => h) (by rfl) hS (fun w2 hw2 => ?ry146) ?rr146
                  case ry146 => ((try dsimp only at hw2); go_simp <;> with_reducible rfl)
                  simp only [Act.put, List.setIfInBounds_toArray, List.set_cons_zero, List.set_cons_succ]
                  refine rg_take 8 (v := ?rv147) rfl (by kernel_rfl) (by kernel_rfl) (by kernel_rfl) (fun _ _ _ h => h) (by rfl) hS (fun w2 hw2 => ?ry147) ?rr147
                  case ry147 => ((try dsimp only at hw2); go_simp <;> with_reducible rfl)
                  simp only [Act.put, List.setIfInBounds_toArray, List.set_cons_zero, List.set_cons_succ]
                  refine rg_take 9 (v := ?rv148) rfl (by kernel_rfl) (by kernel_rfl) (by kernel_rfl) (fun _ _ _ h => h) (by rfl) hS (fun w2 hw2 => ?ry148) ?rr148
                  case ry148 => ((try dsimp only at hw2); go_simp <;> with_reducible rfl)
                  simp only [Act.put, List.setIfInBounds_toArray, List.set_cons_zero, List.set_cons_succ]
                  refine rg_take 10 (v := ?rv149) rfl (by kernel_rfl) (by kernel_rfl) (by kernel_rfl) (fun _ _ _ h => h) (by rfl) hS (fun w2 hw2 => ?ry149) ?rr149
                  case ry149 => ((try dsimp only at hw2); go_simp <;> with_reducible rfl)
                  simp only [Act.put, List.setIfInBounds_toArray, List.set_cons_zero, List.set_cons_succ]
                  refine rg_done (by kernel_rfl) ?_
                  clear c1 y0 y1 y2 hS
                  go_wp2_with fail
                  exact ⟨⟨j + 1, _, _, hj, rfl, rfl, by go_num, HX.out.2.no HX.out.1 HI.out, HS2.out⟩, by simp [intOf]; omega⟩
              · obtain rfl : j = m := by omega
                have hend := Seen.end_ HPS.out.uniq (HZ.out.2.2 ▸ hseen)
                rw [HAT.out] at hend
                obtain ⟨rfl, rfl⟩ : at1 = ta ∧ ab = bb := by simpa using hend
                have HC := Lib.hid (And.intro (HPS.out.later (HF.out.1.trans (hb2.mono HF.out.1.size))) (And.intro (HF.out.2.2.1.later hb2 (Nat.le_refl _)) (HF.out.2.2.2.later hb2 (Nat.le_refl _))))
                have hjj : ¬ ((j : Int) < (j : Int)) := by omega
                clear hend hseen hb2 hjm hj hel l0
                go_wp2_with fail
                have hS : Below wr.heap.size wr wr.drew := below_of_drew (Below.refl _ _)
                have z1 : (at1 != at1) = false := by simp
                have z2 : (ab != ab) = false := by simp
                have z3 : (nb != nb) = false := by simp
                have z4 : (ni == ni) = true := by simp
                have z5 : (nt == nt) = true := by simp
                have z6 := neqEn
                refine rg_begin (fun w' => Below wr.heap.size wr w') 32 (by kernel_rfl) rfl ?_
                obtain ⟨W2, hW2⟩ : ∃ W2, wr.drew = W2 := ⟨_, rfl⟩
                rw [hW2] at hS ⊢
                clear hW2
                refine rg_take 0 (v := ?rv150) rfl (by kernel_rfl) (by kernel_rfl) (by kernel_rfl) (fun _ _ _ h => h) (by rfl) hS (fun w2 hw2 => ?ry150) ?rr150
                case ry150 => ((try dsimp only at hw2); go_simp <;> with_reducible rfl)
                simp only [Act.put, List.setIfInBounds_toArray, List.set_cons_zero, List.set_cons_succ]
                refine rg_take 1 (v := ?rv151) rfl (by kernel_rfl) (by kernel_rfl) (by kernel_rfl) (fun _ _ _ h => h) (by rfl) hS (fun w2 hw2 => ?ry151) ?rr151
                case ry151 => ((try dsimp only at hw2); go_simp <;> with_reducible rfl)
                simp only [Act.put, List.setIfInBounds_toArray, List.set_cons_zero, List.set_cons_succ]
                refine rg_take 2 (v := ?rv152) rfl (by kernel_rfl) (by kernel_rfl) (by kernel_rfl) (fun _ _ _ h => h) (by rfl) hS (fun w2 hw2 => ?ry152) ?rr152
                case ry152 => ((try dsimp only at hw2); go_simp <;> with_reducible rfl)
                simp only [Act.put, List.setIfInBounds_toArray, List.set_cons_zero, List.set_cons_succ]
                refine rg_load 3 rfl (by kernel_rfl) (by kernel_rfl) (by kernel_rfl) (wa.heap.size) (0) (#[.int .i64 ni, .int .u64 nt]) (fun _ _ _ h => h) (by rfl) 45 (.tmp 10) rfl rfl hS (fun w2 h2 => (HC.out.2.1.later h2 (Nat.le_refl _)).range) Tryd.underlying45 rfl (by kernel_rfl) ?_
                simp only [Act.put, List.setIfInBounds_toArray, List.set_cons_zero, List.set_cons_succ]
                refine rg_load 4 rfl (by kernel_rfl) (by kernel_rfl) (by kernel_rfl) (wc.heap.size) (0) (#[.int .i64 ni, .int .u64 nt]) (fun _ _ _ h => h) (by rfl) 45 (.tmp 12) rfl rfl hS (fun w2 h2 => (HC.out.2.2.later h2 (Nat.le_refl _)).range) Tryd.underlying45 rfl (by kernel_rfl) ?_
                simp only [Act.put, List.setIfInBounds_toArray, List.set_cons_zero, List.set_cons_succ]
                refine rg_take 5 (v := ?rv153) rfl (by kernel_rfl) (by kernel_rfl) (by kernel_rfl) (fun _ _ _ h => h) (by rfl) hS (fun w2 hw2 => ?ry153) ?rr153
                case ry153 => ((try dsimp only at hw2); go_simp <;> with_reducible rfl)
                simp only [Act.put, List.setIfInBounds_toArray, List.set_cons_zero, List.set_cons_succ]
                refine rg_take 6 (v := ?rv154) rfl (by kernel_rfl) (by kernel_rfl) (by kernel_rfl) (fun _ _ _ h => h) (by rfl) hS (fun w2 hw2 => ?ry154) ?rr154
                case ry154 => ((try dsimp only at hw2); go_simp <;> with_reducible rfl)
                simp only [Act.put, List.setIfInBounds_toArray, List.set_cons_zero, List.set_cons_succ]
                refine rg_take 7 (v := ?rv155) rfl (by kernel_rfl) (by kernel_rfl) (by kernel_rfl) (fun _ _ _ h => h) (by rfl) hS (fun w2 hw2 => ?ry155) ?rr155
                case ry155 => ((try dsimp only at hw2); go_simp <;> with_reducible rfl)
                simp only [Act.put, List.setIfInBounds_toArray, List.set_cons_zero, List.set_cons_succ]
                refine rg_take 8 (v := ?rv156) rfl (by kernel_rfl) (by kernel_rfl) (by kernel_rfl) (fun _ _ _ h => h) (by rfl) hS (fun w2 hw2 => ?ry156) ?rr156
                case ry156 => ((try dsimp only at hw2); go_simp <;> with_reducible rfl)
                simp only [Act.put, List.setIfInBounds_toArray, List.set_cons_zero, List.set_cons_succ]
                refine rg_take 9 (v := ?rv157) rfl (by kernel_rfl) (by kernel_rfl) (by kernel_rfl) (fun _ _ _ h => h) (by rfl) hS (fun w2 hw2 => ?ry157) ?rr157
                case ry157 => ((try dsimp only at hw2); go_simp <;> with_reducible rfl)
                simp only [Act.put, List.setIfInBounds_toArray, List.set_cons_zero, List.set_cons_succ]
                refine rg_take 10 (v := ?rv158) rfl (by kernel_rfl) (by kernel_rfl) (by kernel_rfl) (fun _ _ _ h => h) (by rfl) hS (fun w2 hw2 => ?ry158) ?rr158
                case ry158 => ((try dsimp only at hw2); go_simp <;> with_reducible rfl)
                simp only [Act.put, List.setIfInBounds_toArray, List.set_cons_zero, List.set_cons_succ]
                refine rg_take 11 (v := ?rv159) rfl (by kernel_rfl) (by kernel_rfl) (by kernel_rfl) (fun _ _ _ h => h) (by rfl) hS (fun w2 hw2 => ?ry159) ?rr159
                case ry159 => ((try dsimp only at hw2); go_simp <;> with_reducible rfl)
                simp only [Act.put, List.setIfInBounds_toArray, List.set_cons_zero, List.set_cons_succ]
                refine rg_take 12 (v := ?rv160) rfl (by kernel_rfl) (by kernel_rfl) (by kernel_rfl) (fun _ _ _ h => h) (by rfl) hS (fun w2 hw2 => ?ry160) ?rr160
                case ry160 => ((try dsimp only at hw2); go_simp <;> with_reducible rfl)
                simp only [Act.put, List.setIfInBounds_toArray, List.set_cons_zero, List.set_cons_succ]
                refine rg_take 13 (v := ?rv161) rfl (by kernel_rfl) (by kernel_rfl) (by kernel_rfl) (fun _ _ _ h => h) (by rfl) hS (fun w2 hw2 => ?ry161) ?rr161
                case ry161 => ((try dsimp only at hw2); go_simp <;> with_reducible rfl)
                simp only [Act.put, List.setIfInBounds_toArray, List.set_cons_zero, List.set_cons_succ]
                refine rg_take 15 (v := ?rv162) rfl (by kernel_rfl) (by kernel_rfl) (by kernel_rfl) (fun _ _ _ h => h) (by rfl) hS (fun w2 hw2 => ?ry162) ?rr162
                case ry162 => ((try dsimp only at hw2); go_simp <;> with_reducible rfl)
                simp only [Act.put, List.setIfInBounds_toArray, List.set_cons_zero, List.set_cons_succ]
                refine rg_take 16 (v := ?rv163) rfl (by kernel_rfl) (by kernel_rfl) (by kernel_rfl) (fun _ _ _ h => h) (by rfl) hS (fun w2 hw2 => ?ry163) ?rr163
                case ry163 => ((try dsimp only at hw2); go_simp <;> with_reducible rfl)
                simp only [Act.put, List.setIfInBounds_toArray, List.set_cons_zero, List.set_cons_succ]
                refine rg_take 17 (v := ?rv164) rfl (by kernel_rfl) (by kernel_rfl) (by kernel_rfl) (fun _ _ _ h => h) (by rfl) hS (fun w2 hw2 => ?ry164) ?rr164
                case ry164 => ((try dsimp only at hw2); go_simp <;> with_reducible rfl)
                simp only [Act.put, List.setIfInBounds_toArray, List.set_cons_zero, List.set_cons_succ]
                refine rg_take 18 (v := ?rv165) rfl (by kernel_rfl) (by kernel_rfl) (by kernel_rfl) (fun _ _ _ h => h) (by rfl) hS (fun w2 hw2 => ?ry165) ?rr165
                case ry165 => ((try dsimp only at hw2); go_simp <;> with_reducible rfl)
                simp only [Act.put, List.setIfInBounds_toArray, List.set_cons_zero, List.set_cons_succ]
                refine rg_take 19 (v := ?rv166) rfl (by kernel_rfl) (by kernel_rfl) (by kernel_rfl) (fun _ _ _ h => h) (by rfl) hS (fun w2 hw2 => ?ry166) ?rr166
                case ry166 => ((try dsimp only at hw2); go_simp <;> with_reducible rfl)
                simp only [Act.put, List.setIfInBounds_toArray, List.set_cons_zero, List.set_cons_succ]
                have HS2 := Lib.hid (HC.out.1.later hS)
                refine rg_step 14 rfl (by kernel_rfl) (by rfl) (fun K hK => ?_)
                go_simp
                refine (HS2.out.qlen).mono ?_
                rintro ev w' ⟨rfl, rfl⟩
                rw [← HZ.out.2.2]
                refine hK.out _ _ hS ?_
                clear hK K
                try simp only [Act.put, List.setIfInBounds_toArray, List.set_cons_zero, List.set_cons_succ]
                refine rg_take 20 (v := ?rv167) rfl (by kernel_rfl) (by kernel_rfl) (by kernel_rfl) (fun _ _ _ h => h) (by rfl) hS (fun w2 hw2 => ?ry167) ?rr167
                case ry167 => ((try dsimp only at hw2); go_simp <;> with_reducible rfl)
                simp only [Act.put, List.setIfInBounds_toArray, List.set_cons_zero, List.set_cons_succ]
                refine rg_take 21 (v := ?rv168) rfl (by kernel_rfl) (by kernel_rfl) (by kernel_rfl) (fun _ _ _ h => h) (by rfl) hS (fun w2 hw2 => ?ry168) ?rr168
                case ry168 => ((try dsimp only at hw2); go_simp <;> with_reducible rfl)
                simp only [Act.put, List.setIfInBounds_toArray, List.set_cons_zero, List.set_cons_succ]
                refine rg_take 22 (v := ?rv169) rfl (by kernel_rfl) (by kernel_rfl) (by kernel_rfl) (fun _ _ _ h => h) (by rfl) hS (fun w2 hw2 => ?ry169) ?rr169
                case ry169 => ((try dsimp only at hw2); go_simp <;> with_reducible rfl)
                simp only [Act.put, List.setIfInBounds_toArray, List.set_cons_zero, List.set_cons_succ]
                refine rg_take 23 (v := ?rv170) rfl (by kernel_rfl) (by kernel_rfl) (by kernel_rfl) (fun _ _ _ h => h) (by rfl) hS (fun w2 hw2 => ?ry170) ?rr170
                case ry170 => ((try dsimp only at hw2); go_simp <;> with_reducible rfl)
                simp only [Act.put, List.setIfInBounds_toArray, List.set_cons_zero, List.set_cons_succ]
                refine rg_take 24 (v := ?rv171) rfl (by kernel_rfl) (by kernel_rfl) (by kernel_rfl) (fun _ _ _ h => h) (by rfl) hS (fun w2 hw2 => ?ry171) ?rr171
                case ry171 => ((try dsimp only at hw2); go_simp <;> with_reducible rfl)
                simp only [Act.put, List.setIfInBounds_toArray, List.set_cons_zero, List.set_cons_succ]
                refine rg_take 25 (v := ?rv172) rfl (by kernel_rfl) (by kernel_rfl) (by kernel_rfl) (fun _ _ _ h => h) (by rfl) hS (fun w2 hw2 => ?ry172) ?rr172
                case ry172 => ((try dsimp only at hw2); go_simp <;> with_reducible rfl)
                simp only [Act.put, List.setIfInBounds_toArray, List.set_cons_zero, List.set_cons_succ]
                refine rg_take 26 (v := ?rv173) rfl (by kernel_rfl) (by kernel_rfl) (by kernel_rfl) (fun _ _ _ h => h) (by rfl) hS (fun w2 hw2 => ?ry173) ?rr173
                case ry173 => ((try dsimp only at hw2); go_simp <;> with_reducible rfl)
                simp only [Act.put, List.setIfInBounds_toArray, List.set_cons_zero, List.set_cons_succ]
                refine rg_take 27 (v := ?rv174) rfl (by kernel_rfl) (by kernel_rfl) (by kernel_rfl) (fun _ _ _ h => h) (by rfl) hS (fun w2 hw2 => ?ry174) ?rr174
                case ry174 => ((try dsimp only at hw2); go_simp <;> with_reducible rfl)
                simp only [Act.put, List.setIfInBounds_toArray, List.set_cons_zero, List.set_cons_succ]
                refine rg_take 28 (v := ?rv175) rfl (by kernel_rfl) (by kernel_rfl) (by kernel_rfl) (fun _ _ _ h => h) (by rfl) hS (fun w2 hw2 => ?ry175) ?rr175
                case ry175 => ((try dsimp only at hw2); go_simp <;> with_reducible rfl)
                simp only [Act.put, List.setIfInBounds_toArray, List.set_cons_zero, List.set_cons_succ]
                refine rg_take 29 (v := ?rv176) rfl (by kernel_rfl) (by kernel_rfl) (by kernel_rfl) (fun _ _ _ h => h) (by rfl) hS (fun w2 hw2 => ?ry176) ?rr176
                case ry176 => ((try dsimp only at hw2); go_simp <;> with_reducible rfl)
                simp only [Act.put, List.setIfInBounds_toArray, List.set_cons_zero, List.set_cons_succ]
                refine rg_take 30 (v := ?rv177) rfl (by kernel_rfl) (by kernel_rfl) (by kernel_rfl) (fun _ _ _ h => h) (by rfl) hS (fun w2 hw2 => ?ry177) ?rr177
                case ry177 => ((try dsimp only at hw2); go_simp <;> with_reducible rfl)
                simp only [Act.put, List.setIfInBounds_toArray, List.set_cons_zero, List.set_cons_succ]
                refine rg_take 31 (v := ?rv178) rfl (by kernel_rfl) (by kernel_rfl) (by kernel_rfl) (fun _ _ _ h => h) (by rfl) hS (fun w2 hw2 => ?ry178) ?rr178
                case ry178 => ((try dsimp only at hw2); go_simp <;> with_reducible rfl)
                simp only [Act.put, List.setIfInBounds_toArray, List.set_cons_zero, List.set_cons_succ]
                refine rg_done (by kernel_rfl) ?_
                clear c1 hS z1 z2 z3 z4 z5 z6
                go_wp2_with fail
                exact ⟨⟨k + 1, zs, hkn, by omega, by go_num, hzl, HS2.out⟩, by simp [intOf]; omega⟩
          · have k3b : (kd == 3) = false := by simpa using k3
            go_wp2_with (first | (rw [HW.out.1, HW.out.2]))
            have HD := Lib.hid (HPB.out.later (below_of_drew (Below.refl _ W5)))
            obtain ⟨W6, hW6⟩ : ∃ W6, W5.drew = W6 := ⟨_, rfl⟩
            rw [hW6] at HD
            have hS := HD.out.op
            refine rg_begin (fun w' => OpB w' p ⟨kd, id, t⟩) 14 (by kernel_rfl) rfl ?_
            rw [hW6]
            clear hW6
            refine rg_take 0 (v := ?rv179) rfl (by kernel_rfl) (by kernel_rfl) (by kernel_rfl) (fun _ _ _ h => h) (by rfl) hS (fun w2 hw2 => ?ry179) ?rr179
            case ry179 => ((try dsimp only at hw2); go_simp <;> with_reducible rfl)
            simp only [Act.put, List.setIfInBounds_toArray, List.set_cons_zero, List.set_cons_succ]
            refine rg_take 1 (v := ?rv180) rfl (by kernel_rfl) (by kernel_rfl) (by kernel_rfl) (fun _ _ _ h => h) (by rfl) hS (fun w2 hw2 => ?ry180) ?rr180
            case ry180 => ((try dsimp only at hw2); go_simp <;> with_reducible rfl)
            simp only [Act.put, List.setIfInBounds_toArray, List.set_cons_zero, List.set_cons_succ]
            refine rg_take 2 (v := ?rv181) rfl (by kernel_rfl) (by kernel_rfl) (by kernel_rfl) (fun _ _ _ h => h) (by rfl) hS (fun w2 hw2 => ?ry181) ?rr181
            case ry181 => ((try dsimp only at hw2); go_simp <;> with_reducible rfl)
            simp only [Act.put, List.setIfInBounds_toArray, List.set_cons_zero, List.set_cons_succ]
            refine rg_take 3 (v := ?rv182) rfl (by kernel_rfl) (by kernel_rfl) (by kernel_rfl) (fun _ _ _ h => h) (by rfl) hS (fun w2 hw2 => ?ry182) ?rr182
            case ry182 => ((try dsimp only at hw2); go_simp <;> with_reducible rfl)
            simp only [Act.put, List.setIfInBounds_toArray, List.set_cons_zero, List.set_cons_succ]
            refine rg_take 4 (v := ?rv183) rfl (by kernel_rfl) (by kernel_rfl) (by kernel_rfl) (fun _ _ _ h => h) (by rfl) hS (fun w2 hw2 => ?ry183) ?rr183
            case ry183 => ((try dsimp only at hw2); go_simp <;> with_reducible rfl)
            simp only [Act.put, List.setIfInBounds_toArray, List.set_cons_zero, List.set_cons_succ]
            refine rg_take 6 (v := ?rv184) rfl (by kernel_rfl) (by kernel_rfl) (by kernel_rfl) (fun _ _ _ h => h) (by rfl) hS (fun w2 hw2 => ?ry184) ?rr184
            case ry184 => ((try dsimp only at hw2); go_simp <;> with_reducible rfl)
            simp only [Act.put, List.setIfInBounds_toArray, List.set_cons_zero, List.set_cons_succ]
            refine rg_take 7 (v := ?rv185) rfl (by kernel_rfl) (by kernel_rfl) (by kernel_rfl) (fun _ _ _ h => h) (by rfl) hS (fun w2 hw2 => ?ry185) ?rr185
            case ry185 => ((try dsimp only at hw2); go_simp <;> with_reducible rfl)
            simp only [Act.put, List.setIfInBounds_toArray, List.set_cons_zero, List.set_cons_succ]
            refine rg_take 8 (v := ?rv186) rfl (by kernel_rfl) (by kernel_rfl) (by kernel_rfl) (fun _ _ _ h => h) (by rfl) hS (fun w2 hw2 => ?ry186) ?rr186
            case ry186 => ((try dsimp only at hw2); go_simp <;> with_reducible rfl)
            simp only [Act.put, List.setIfInBounds_toArray, List.set_cons_zero, List.set_cons_succ]
            refine rg_take 9 (v := ?rv187) rfl (by kernel_rfl) (by kernel_rfl) (by kernel_rfl) (fun _ _ _ h => h) (by rfl) hS (fun w2 hw2 => ?ry187) ?rr187
            case ry187 => ((try dsimp only at hw2); go_simp <;> with_reducible rfl)
            simp only [Act.put, List.setIfInBounds_toArray, List.set_cons_zero, List.set_cons_succ]
            refine rg_take 10 (v := ?rv188) rfl (by kernel_rfl) (by kernel_rfl) (by kernel_rfl) (fun _ _ _ h => h) (by rfl) hS (fun w2 hw2 => ?ry188) ?rr188
            case ry188 => ((try dsimp only at hw2); go_simp <;> with_reducible rfl)
            simp only [Act.put, List.setIfInBounds_toArray, List.set_cons_zero, List.set_cons_succ]
            refine rg_step 5 rfl (by kernel_rfl) (by rfl) (fun K hK => ?_)
            go_simp
            refine (HD.out.qpush hy1 id t).mono ?_
            rintro ev w7 ⟨rfl, p7⟩
            have H7 := Lib.hid p7
            replace hS := p7.op
            clear p7 HD
            refine hK.out _ _ hS ?_
            clear hK K
            try simp only [Act.put, List.setIfInBounds_toArray, List.set_cons_zero, List.set_cons_succ]
            refine rg_step 11 rfl (by kernel_rfl) (by rfl) (fun K hK => ?_)
            go_simp
            refine (H7.out.tpush hy1 id t).mono ?_
            rintro ev w8 ⟨rfl, p8⟩
            have H8 := Lib.hid p8
            replace hS := p8.op
            clear p8 H7
            refine hK.out _ _ hS ?_
            clear hK K
            try simp only [Act.put, List.setIfInBounds_toArray, List.set_cons_zero, List.set_cons_succ]
            refine rg_step 12 rfl (by kernel_rfl) (by rfl) (fun K hK => ?_)
            go_simp
            refine (is_res (HO.out.2.later H8.out.below (Nat.le_refl _)) id (pushE (heldV N) ys id)).mono ?_
            rintro ev w9 ⟨rfl, b9⟩
            have HPC := Lib.hid (H8.out.later b9)
            have hzl : (pushL (heldV N) ys id t).length ≤ k + 1 := by have := pushL_length (heldV N) ys id t; omega
            clear b9 H8
            replace hS := HPC.out.op
            refine hK.out _ _ hS ?_
            clear hK K
            try simp only [Act.put, List.setIfInBounds_toArray, List.set_cons_zero, List.set_cons_succ]
            refine rg_take 13 (v := ?rv189) rfl (by kernel_rfl) (by kernel_rfl) (by kernel_rfl) (fun _ _ _ h => h) (by rfl) hS (fun w2 hw2 => ?ry189) ?rr189
            case ry189 => ((try dsimp only at hw2); go_simp <;> with_reducible rfl)
            simp only [Act.put, List.setIfInBounds_toArray, List.set_cons_zero, List.set_cons_succ]
            refine rg_done (by kernel_rfl) ?_
            clear hS
            obtain ⟨zs, hzs⟩ : ∃ l, l = pushL (heldV N) ys id t := ⟨_, rfl⟩
            rw [← hzs] at HPC hzl
            have HPS := Lib.hid HPC.out.base
            have HOP := Lib.hid HPC.out.op
            clear hzs HPC
            have hz1 : zs.length ≤ 100000 := by omega
            obtain ⟨ni, nt, nb, hR⟩ := nextR_tup (nextV zs)
            obtain ⟨at1, ab, hA⟩ := atR_tup (atV zs id)
            have KN1 : Hid (Calls Tryd.prog 18 #[.pointer (some ⟨g, 0, none⟩)] w9 fun ev w'' => ev = .returned (.tuple #[.agg #[.int .i64 ni, .int .u64 nt], .bool nb]) ∧ Below w9.heap.size w9 w'') := by
              have h := HPS.out.qnext
              rw [hR] at h
              exact h
            have KN2 : Hid (∀ w', Below w9.heap.size w9 w' → Calls Tryd.prog 19 #[.pointer (some ⟨e, 0, none⟩)] w' fun ev w'' => ev = .returned (.tuple #[.agg #[.int .i64 ni, .int .u64 nt], .bool nb]) ∧ Below w'.heap.size w' w'') := fun w' hb => by
              have h := (HPS.out.later hb).tnext hz1
              rw [hR] at h
              exact h
            have KA : Hid (∀ w', Below w9.heap.size w9 w' → Calls Tryd.prog 20 #[.pointer (some ⟨g, 0, none⟩), .int .i64 id] w' fun ev w'' => ev = .returned (.tuple #[.int .u64 at1, .bool ab]) ∧ Below w'.heap.size w' w'') := fun w' hb => by
              have h := (HPS.out.later hb).qat id
              rw [hA] at h
              exact h
            have HAT := Lib.hid hA
            clear hR hA q0 q1 q2 x0 x1 x2 hkn2 hk120 HPB
            go_wp2_with (refine KN1.out.mono ?_; rintro ev wa ⟨rfl, ba⟩; have BA := Lib.hid ba; clear ba)
            obtain ⟨Wb, hWb⟩ : ∃ W, wa.alloc (.cells #[.int .i64 ni, .int .u64 nt] 45) = W := ⟨_, rfl⟩
            have hEa : EnB Wb wa.heap.size ni nt := hWb ▸ heap_alloc_new wa _
            have hBb : Below w9.heap.size w9 Wb := hWb ▸ BA.out.alloc BA.out.size _
            rw [hWb]
            clear hWb
            refine (KN2.out Wb hBb).mono ?_
            rintro ev wc ⟨rfl, bc⟩
            have HBc := Lib.hid (hBb.trans (bc.mono hBb.size))
            have HEc := Lib.hid (hEa.later bc (Nat.le_refl _))
            clear hEa hBb bc KN1 KN2 BA
            go_wp2_with (first
              | (refine wpList_alloc_enB rfl rfl ?_
                 intro wd ad bd sd
                 have HD1 := Lib.hid (And.intro ad (And.intro bd sd))
                 clear ad bd sd)
              | (refine wpList_store_enB rfl (.tmp 12) (.tmp 104) rfl ni nt rfl rfl HD1.out.1 ?_
                 intro we ae me se
                 have HBe : Below w9.heap.size w9 we := below_of_new (HBc.out.trans (HD1.out.2.1.mono HBc.out.size)) me HBc.out.size
                 have HPe : OpB we p ⟨kd, id, t⟩ := (HBe.block p HOP.out.lt).trans HOP.out
                 have q1 := HPe.cell 1
                 have q1 : we.cell? ⟨p, 1, none⟩ = some (.int .i64 id) := q1
                 have HXe : EnB we wa.heap.size ni nt := (me.block wa.heap.size (Nat.lt_of_lt_of_le HEc.out.lt HD1.out.2.1.size) (Nat.ne_of_lt HEc.out.lt) (by simp)).trans (HEc.out.later HD1.out.2.1 (Nat.le_refl _))
                 have HE1 := Lib.hid (And.intro HBe (And.intro HPe (And.intro HXe ae)))
                 clear ae me se HBe HPe HXe))
            clear q1
            refine (KA.out we HE1.out.1).mono ?_
            rintro ev wf ⟨rfl, bf⟩
            have hof : OpB wf p ⟨kd, id, t⟩ := (bf.block p HE1.out.2.1.lt).trans HE1.out.2.1
            have HF := Lib.hid (And.intro (HE1.out.1.trans (bf.mono HE1.out.1.size)) (And.intro hof (And.intro (HE1.out.2.2.1.later bf (Nat.le_refl _)) (HE1.out.2.2.2.later bf (Nat.le_refl _)))))
            clear bf KA HD1 hof
            obtain ⟨m, hm⟩ : ∃ m, m = zs.length := ⟨_, rfl⟩
            have hrow := (HPS.out.later HF.out.1).row
            rw [← hm] at hrow
            obtain ⟨AZ, cz, qz, sz⟩ := hrow
            have hmm : m ≤ 1000 := by omega
            have HZ := Lib.hid (And.intro qz (And.intro sz hm))
            clear qz sz hm HE1 HBc HEc
            go_wp2_with fail
            go_loopw [16, 17, 18] (fun a1 a2 a3 wr => ∃ (j : Nat) (ta : Int) (bb : Bool), j ≤ m ∧ a1 = .int .u64 ta ∧ a2 = .bool bb ∧ a3 = .int .i64 j ∧ Seen zs id j ta bb ∧ Below wf.heap.size wf wr) (fun _ _ a3 _ => m - (intOf a3).toNat)
            case atStart => exact ⟨0, 0, false, Nat.zero_le _, rfl, rfl, rfl, .inl ⟨rfl, rfl, fun j x h => absurd h (by omega)⟩, Below.refl _ _⟩
            case round =>
              obtain ⟨j, ta, bb, hjm, rfl, rfl, rfl, hseen, hb2⟩ := hrel
              have hel : e < wf.heap.size := lt_of_cell' HZ.out.1
              have l0 : e < wr.heap.size := Nat.lt_of_lt_of_le hel hb2.size
              have qe := (hb2.cell (p := ⟨e, 1, none⟩) hel).trans HZ.out.1
              have c1 : ∀ w', Below wr.heap.size wr w' → w'.cell? ⟨e, 1, none⟩ = some (.slice AZ m cz) := fun w' hb => (hb.cell (p := ⟨e, 1, none⟩) l0).trans qe
              have HB2 := Lib.hid hb2
              by_cases hj : j < m
              · obtain ⟨x, hx⟩ : ∃ x, zs[j]? = some x := ⟨zs[j]'(by rw [← HZ.out.2.2]; exact hj), List.getElem?_eq_getElem _⟩
                obtain ⟨bz, oz, rfl, s1, s2⟩ := (HZ.out.2.1.later hb2 (Nat.le_refl _)).here j x hx
                have hob : OpB wr p ⟨kd, id, t⟩ := (hb2.block p HF.out.2.1.lt).trans HF.out.2.1
                have lp := hob.lt
                have qo := hob.cell 1
                have qo : wr.cell? ⟨p, 1, none⟩ = some (.int .i64 id) := qo
                have y0 : ∀ w', Below wr.heap.size wr w' → w'.cell? ⟨p, 1, none⟩ = some (.int .i64 id) := fun w' hb => (hb.cell (p := ⟨p, 1, none⟩) lp).trans qo
                have l1 := lt_of_cell' s1
                have y1 : ∀ w', Below wr.heap.size wr w' → w'.cell? ⟨bz, oz + j * 2, none⟩ = some (.int .i64 x.id) := fun w' hb => (hb.cell (p := ⟨bz, oz + j * 2, none⟩) l1).trans s1
                have y2 : ∀ w', Below wr.heap.size wr w' → w'.cell? ⟨bz, oz + j * 2 + 1, none⟩ = some (.int .u64 x.at_) := fun w' hb => (hb.cell (p := ⟨bz, oz + j * 2 + 1, none⟩) l1).trans s2
                have hj2 : (j : Int) < (m : Int) := by omega
                have HX := Lib.hid (And.intro hx hseen)
                clear hx hseen hob hb2 s1 qo l1 lp l0 hel
                obtain ⟨xi, xt⟩ := x
                dsimp only at y1 y2 s2
                by_cases hxi : xi = id
                · have hxb : (xi == id) = true := by simpa using hxi
                  have HI := Lib.hid hxi
                  clear hxi
                  go_wp2_with fail
                  have hS : Below wr.heap.size wr wr.drew := below_of_drew (Below.refl _ _)
                  have HS2 := Lib.hid (HB2.out.trans (hS.mono HB2.out.size))
                  have f1 := c1 _ hS
                  have f2 := y2 _ hS
                  refine rg_begin (fun w' => Below wr.heap.size wr w') 11 (by kernel_rfl) rfl ?_
                  refine rg_take 0 (v := ?rv190) rfl (by kernel_rfl) (by kernel_rfl) (by kernel_rfl) (fun _ _ _ h => h) (by rfl) hS (fun w2 hw2 => ?ry190) ?rr190
                  case ry190 => ((try dsimp only at hw2); go_simp <;> with_reducible rfl)
                  simp only [Act.put, List.setIfInBounds_toArray, List.set_cons_zero, List.set_cons_succ]
                  refine rg_take 1 (v := ?rv191) rfl (by kernel_rfl) (by kernel_rfl) (by kernel_rfl) (fun _ _ _ h => h) (by rfl) hS (fun w2 hw2 => ?ry191) ?rr191
                  case ry191 => ((try dsimp only at hw2); go_simp <;> with_reducible rfl)
                  simp only [Act.put, List.setIfInBounds_toArray, List.set_cons_zero, List.set_cons_succ]
                  refine rg_take 2 (v := ?rv192) rfl (by kernel_rfl) (by kernel_rfl) (by kernel_rfl) (fun _ _ _ h => h) (by rfl) hS (fun w2 hw2 => ?ry192) ?rr192
                  case ry192 => ((try dsimp only at hw2); go_simp <;> with_reducible rfl)
                  simp only [Act.put, List.setIfInBounds_toArray, List.set_cons_zero, List.set_cons_succ]
                  refine rg_take 3 (v := ?rv193) rfl (by kernel_rfl) (by kernel_rfl) (by kernel_rfl) (fun _ _ _ h => h) (by rfl) hS (fun w2 hw2 => ?ry193) ?rr193
                  case ry193 => ((try dsimp only at hw2); go_simp <;> with_reducible rfl)
                  simp only [Act.put, List.setIfInBounds_toArray, List.set_cons_zero, List.set_cons_succ]
                  refine rg_take 4 (v := ?rv194) rfl (by kernel_rfl) (by kernel_rfl) (by kernel_rfl) (fun _ _ _ h => h) (by rfl) hS (fun w2 hw2 => ?ry194) ?rr194
                  case ry194 => ((try dsimp only at hw2); go_simp <;> with_reducible rfl)
                  simp only [Act.put, List.setIfInBounds_toArray, List.set_cons_zero, List.set_cons_succ]
                  refine rg_take 5 (v := ?rv195) rfl (by kernel_rfl) (by kernel_rfl) (by kernel_rfl) (fun _ _ _ h => h) (by rfl) hS (fun w2 hw2 => ?ry195) ?rr195
                  case ry195 => ((try dsimp only at hw2); go_simp <;> with_reducible rfl)
                  simp only [Act.put, List.setIfInBounds_toArray, List.set_cons_zero, List.set_cons_succ]
                  refine rg_take 6 (v := ?rv196) rfl (by kernel_rfl) (by kernel_rfl) (by kernel_rfl) (fun _ _ _ h => h) (by rfl) hS (fun w2 hw2 => ?ry196) ?rr196
                  case ry196 => ((try dsimp only at hw2); go_simp <;> with_reducible rfl)
                  simp only [Act.put, List.setIfInBounds_toArray, List.set_cons_zero, List.set_cons_succ]
                  refine rg_take 7 (v := ?rv197) rfl (by kernel_rfl) (by kernel_rfl) (by kernel_rfl) (fun _ _ _ h => h) (by rfl) hS (fun w2 hw2 => ?ry197) ?rr197
                  case ry197 => ((try dsimp only at hw2); go_simp <;> with_reducible rfl)
                  simp only [Act.put, List.setIfInBounds_toArray, List.set_cons_zero, List.set_cons_succ]
                  refine rg_take 8 (v := ?rv198) rfl (by kernel_rfl) (by kernel_rfl) (by kernel_rfl) (fun _ _ _ h => h) (by rfl) hS (fun w2 hw2 => ?ry198) ?rr198
                  case ry198 => ((try dsimp only at hw2); go_simp <;> with_reducible rfl)
                  simp only [Act.put, List.setIfInBounds_toArray, List.set_cons_zero, List.set_cons_succ]
                  refine rg_take 9 (v := ?rv199) rfl (by kernel_rfl) (by kernel_rfl) (by kernel_rfl) (fun _ _ _ h => h) (by rfl) hS (fun w2 hw2 => ?ry199) ?rr199
                  case ry199 => ((try dsimp only at hw2); go_simp <;> with_reducible rfl)
                  simp only [Act.put, List.setIfInBounds_toArray, List.set_cons_zero, List.set_cons_succ]
                  refine rg_take 10 (v := ?rv200) rfl (by kernel_rfl) (by kernel_rfl) (by kernel_rfl) (fun _ _ _ h => h) (by rfl) hS (fun w2 hw2 => ?ry200) ?rr200
                  case ry200 => ((try dsimp only at hw2); go_simp <;> with_reducible rfl)
                  simp only [Act.put, List.setIfInBounds_toArray, List.set_cons_zero, List.set_cons_succ]
                  refine rg_done (by kernel_rfl) ?_
                  clear c1 y0 y1 y2 hS
                  go_wp2_with fail
                  exact ⟨⟨j + 1, _, _, hj, rfl, rfl, by go_num, HX.out.2.yes HX.out.1 HI.out, HS2.out⟩, by simp [intOf]; omega⟩
                · have hxb : (xi == id) = false := by simpa using hxi
                  have HI := Lib.hid hxi
                  clear hxi
                  go_wp2_with fail
                  have hS : Below wr.heap.size wr wr.drew := below_of_drew (Below.refl _ _)
                  have HS2 := Lib.hid (HB2.out.trans (hS.mono HB2.out.size))
                  refine rg_begin (fun w' => Below wr.heap.size wr w') 11 (by kernel_rfl) rfl ?_
                  refine rg_take 0 (v := ?rv201) rfl (by kernel_rfl) (by kernel_rfl) (by kernel_rfl) (fun _ _ _ h => h) (by rfl) hS (fun w2 hw2 => ?ry201) ?rr201
                  case ry201 => ((try dsimp only at hw2); go_simp <;> with_reducible rfl)
                  simp only [Act.put, List.setIfInBounds_toArray, List.set_cons_zero, List.set_cons_succ]
                  refine rg_take 1 (v := ?rv202) rfl (by kernel_rfl) (by kernel_rfl) (by kernel_rfl) (fun _ _ _ h => h) (by rfl) hS (fun w2 hw2 => ?ry202) ?rr202
                  case ry202 => ((try dsimp only at hw2); go_simp <;> with_reducible rfl)
                  simp only [Act.put, List.setIfInBounds_toArray, List.set_cons_zero, List.set_cons_succ]
                  refine rg_take 2 (v := ?rv203) rfl (by kernel_rfl) (by kernel_rfl) (by kernel_rfl) (fun _ _ _ h => h) (by rfl) hS (fun w2 hw2 => ?ry203) ?rr203
                  case ry203 => ((try dsimp only at hw2); go_simp <;> with_reducible rfl)
                  simp only [Act.put, List.setIfInBounds_toArray, List.set_cons_zero, List.set_cons_succ]
                  refine rg_take 3 (v := ?rv204) rfl (by kernel_rfl) (by kernel_rfl) (by kernel_rfl) (fun _ _ _ h => h) (by rfl) hS (fun w2 hw2 => ?ry204) ?rr204
                  case ry204 => ((try dsimp only at hw2); go_simp <;> with_reducible rfl)
                  simp only [Act.put, List.setIfInBounds_toArray, List.set_cons_zero, List.set_cons_succ]
                  refine rg_take 4 (v := ?rv205) rfl (by kernel_rfl) (by kernel_rfl) (by kernel_rfl) (fun _ _ _ h => h) (by rfl) hS (fun w2 hw2 => ?ry205) ?rr205
                  case ry205 => ((try dsimp only at hw2); go_simp <;> with_reducible rfl)
                  simp only [Act.put, List.setIfInBounds_toArray, List.set_cons_zero, List.set_cons_succ]
                  refine rg_take 5 (v := ?rv206) rfl (by kernel_rfl) (by kernel_rfl) (by kernel_rfl) (fun _ _ _ h => h) (by rfl) hS (fun w2 hw2 => ?ry206) ?rr206
                  case ry206 => ((try dsimp only at hw2); go_simp <;> with_reducible rfl)
                  simp only [Act.put, List.setIfInBounds_toArray, List.set_cons_zero, List.set_cons_succ]
                  refine rg_take 6 (v := ?rv207) rfl (by kernel_rfl) (by kernel_rfl) (by kernel_rfl) (fun _ _ _ h => h) (by rfl) hS (fun w2 hw2 => ?ry207) ?rr207
                  case ry207 => ((try dsimp only at hw2); go_simp <;> with_reducible rfl)
                  simp only [Act.put, List.setIfInBounds_toArray, List.set_cons_zero, List.set_cons_succ]
                  refine rg_take 7 (v := ?rv208) rfl (by kernel_rfl) (by kernel_rfl) (by kernel_rfl) (fun _ _ _ h => h) (by rfl) hS (fun w2 hw2 => ?ry208) ?rr208
                  case ry208 => ((try dsimp only at hw2); go_simp <;> with_reducible rfl)
                  simp only [Act.put, List.setIfInBounds_toArray, List.set_cons_zero, List.set_cons_succ]
                  refine rg_take 8 (v := ?rv209) rfl (by kernel_rfl) (by kernel_rfl) (by kernel_rfl) (fun _ _ _ h => h) (by rfl) hS (fun w2 hw2 => ?ry209) ?rr209
                  case ry209 => ((try dsimp only at hw2); go_simp <;> with_reducible rfl)
                  simp only [Act.put, List.setIfInBounds_toArray, List.set_cons_zero, List.set_cons_succ]
                  refine rg_take 9 (v := ?rv210) rfl (by kernel_rfl) (by kernel_rfl) (by kernel_rfl) (fun _ _ _ h => h) (by rfl) hS (fun w2 hw2 => ?ry210) ?rr210
                  case ry210 => ((try dsimp only at hw2); go_simp <;> with_reducible rfl)
                  simp only [Act.put, List.setIfInBounds_toArray, List.set_cons_zero, List.set_cons_succ]
                  refine rg_take 10 (v := ?rv211) rfl (by kernel_rfl) (by kernel_rfl) (by kernel_rfl) (fun _ _ _ h => h) (by rfl) hS (fun w2 hw2 => ?ry211) ?rr211
                  case ry211 => ((try dsimp only at hw2); go_simp <;> with_reducible rfl)
                  simp only [Act.put, List.setIfInBounds_toArray, List.set_cons_zero, List.set_cons_succ]
                  refine rg_done (by kernel_rfl) ?_
                  clear c1 y0 y1 y2 hS
                  go_wp2_with fail
                  exact ⟨⟨j + 1, _, _, hj, rfl, rfl, by go_num, HX.out.2.no HX.out.1 HI.out, HS2.out⟩, by simp [intOf]; omega⟩
              · obtain rfl : j = m := by omega
                have hend := Seen.end_ HPS.out.uniq (HZ.out.2.2 ▸ hseen)
                rw [HAT.out] at hend
                obtain ⟨rfl, rfl⟩ : at1 = ta ∧ ab = bb := by simpa using hend
                have HC := Lib.hid (And.intro (HPS.out.later (HF.out.1.trans (hb2.mono HF.out.1.size))) (And.intro (HF.out.2.2.1.later hb2 (Nat.le_refl _)) (HF.out.2.2.2.later hb2 (Nat.le_refl _))))
                have hjj : ¬ ((j : Int) < (j : Int)) := by omega
                clear hend hseen hb2 hjm hj hel l0
                go_wp2_with fail
                have hS : Below wr.heap.size wr wr.drew := below_of_drew (Below.refl _ _)
                have z1 : (at1 != at1) = false := by simp
                have z2 : (ab != ab) = false := by simp
                have z3 : (nb != nb) = false := by simp
                have z4 : (ni == ni) = true := by simp
                have z5 : (nt == nt) = true := by simp
                have z6 := neqEn
                refine rg_begin (fun w' => Below wr.heap.size wr w') 32 (by kernel_rfl) rfl ?_
                obtain ⟨W2, hW2⟩ : ∃ W2, wr.drew = W2 := ⟨_, rfl⟩
                rw [hW2] at hS ⊢
                clear hW2
                refine rg_take 0 (v := ?rv212) rfl (by kernel_rfl) (by kernel_rfl) (by kernel_rfl) (fun _ _ _ h => h) (by rfl) hS (fun w2 hw2 => ?ry212) ?rr212
                case ry212 => ((try dsimp only at hw2); go_simp <;> with_reducible rfl)
                simp only [Act.put, List.setIfInBounds_toArray, List.set_cons_zero, List.set_cons_succ]
                refine rg_take 1 (v := ?rv213) rfl (by kernel_rfl) (by kernel_rfl) (by kernel_rfl) (fun _ _ _ h => h) (by rfl) hS (fun w2 hw2 => ?ry213) ?rr213
                case ry213 => ((try dsimp only at hw2); go_simp <;> with_reducible rfl)
                simp only [Act.put, List.setIfInBounds_toArray, List.set_cons_zero, List.set_cons_succ]
                refine rg_take 2 (v := ?rv214) rfl (by kernel_rfl) (by kernel_rfl) (by kernel_rfl) (fun _ _ _ h => h) (by rfl) hS (fun w2 hw2 => ?ry214) ?rr214
                case ry214 => ((try dsimp only at hw2); go_simp <;> with_reducible rfl)
                simp only [Act.put, List.setIfInBounds_toArray, List.set_cons_zero, List.set_cons_succ]
                refine rg_load 3 rfl (by kernel_rfl) (by kernel_rfl) (by kernel_rfl) (wa.heap.size) (0) (#[.int .i64 ni, .int .u64 nt]) (fun _ _ _ h => h) (by rfl) 45 (.tmp 10) rfl rfl hS (fun w2 h2 => (HC.out.2.1.later h2 (Nat.le_refl _)).range) Tryd.underlying45 rfl (by kernel_rfl) ?_
                simp only [Act.put, List.setIfInBounds_toArray, List.set_cons_zero, List.set_cons_succ]
                refine rg_load 4 rfl (by kernel_rfl) (by kernel_rfl) (by kernel_rfl) (wc.heap.size) (0) (#[.int .i64 ni, .int .u64 nt]) (fun _ _ _ h => h) (by rfl) 45 (.tmp 12) rfl rfl hS (fun w2 h2 => (HC.out.2.2.later h2 (Nat.le_refl _)).range) Tryd.underlying45 rfl (by kernel_rfl) ?_
                simp only [Act.put, List.setIfInBounds_toArray, List.set_cons_zero, List.set_cons_succ]
                refine rg_take 5 (v := ?rv215) rfl (by kernel_rfl) (by kernel_rfl) (by kernel_rfl) (fun _ _ _ h => h) (by rfl) hS (fun w2 hw2 => ?ry215) ?rr215
                case ry215 => ((try dsimp only at hw2); go_simp <;> with_reducible rfl)
                simp only [Act.put, List.setIfInBounds_toArray, List.set_cons_zero, List.set_cons_succ]
                refine rg_take 6 (v := ?rv216) rfl (by kernel_rfl) (by kernel_rfl) (by kernel_rfl) (fun _ _ _ h => h) (by rfl) hS (fun w2 hw2 => ?ry216) ?rr216
                case ry216 => ((try dsimp only at hw2); go_simp <;> with_reducible rfl)
                simp only [Act.put, List.setIfInBounds_toArray, List.set_cons_zero, List.set_cons_succ]
                refine rg_take 7 (v := ?rv217) rfl (by kernel_rfl) (by kernel_rfl) (by kernel_rfl) (fun _ _ _ h => h) (by rfl) hS (fun w2 hw2 => ?ry217) ?rr217
                case ry217 => ((try dsimp only at hw2); go_simp <;> with_reducible rfl)
                simp only [Act.put, List.setIfInBounds_toArray, List.set_cons_zero, List.set_cons_succ]
                refine rg_take 8 (v := ?rv218) rfl (by kernel_rfl) (by kernel_rfl) (by kernel_rfl) (fun _ _ _ h => h) (by rfl) hS (fun w2 hw2 => ?ry218) ?rr218
                case ry218 => ((try dsimp only at hw2); go_simp <;> with_reducible rfl)
                simp only [Act.put, List.setIfInBounds_toArray, List.set_cons_zero, List.set_cons_succ]
                refine rg_take 9 (v := ?rv219) rfl (by kernel_rfl) (by kernel_rfl) (by kernel_rfl) (fun _ _ _ h => h) (by rfl) hS (fun w2 hw2 => ?ry219) ?rr219
                case ry219 => ((try dsimp only at hw2); go_simp <;> with_reducible rfl)
                simp only [Act.put, List.setIfInBounds_toArray, List.set_cons_zero, List.set_cons_succ]
                refine rg_take 10 (v := ?rv220) rfl (by kernel_rfl) (by kernel_rfl) (by kernel_rfl) (fun _ _ _ h => h) (by rfl) hS (fun w2 hw2 => ?ry220) ?rr220
                case ry220 => ((try dsimp only at hw2); go_simp <;> with_reducible rfl)
                simp only [Act.put, List.setIfInBounds_toArray, List.set_cons_zero, List.set_cons_succ]
                refine rg_take 11 (v := ?rv221) rfl (by kernel_rfl) (by kernel_rfl) (by kernel_rfl) (fun _ _ _ h => h) (by rfl) hS (fun w2 hw2 => ?ry221) ?rr221
                case ry221 => ((try dsimp only at hw2); go_simp <;> with_reducible rfl)
                simp only [Act.put, List.setIfInBounds_toArray, List.set_cons_zero, List.set_cons_succ]
                refine rg_take 12 (v := ?rv222) rfl (by kernel_rfl) (by kernel_rfl) (by kernel_rfl) (fun _ _ _ h => h) (by rfl) hS (fun w2 hw2 => ?ry222) ?rr222
                case ry222 => ((try dsimp only at hw2); go_simp <;> with_reducible rfl)
                simp only [Act.put, List.setIfInBounds_toArray, List.set_cons_zero, List.set_cons_succ]
                refine rg_take 13 (v := ?rv223) rfl (by kernel_rfl) (by kernel_rfl) (by kernel_rfl) (fun _ _ _ h => h) (by rfl) hS (fun w2 hw2 => ?ry223) ?rr223
                case ry223 => ((try dsimp only at hw2); go_simp <;> with_reducible rfl)
                simp only [Act.put, List.setIfInBounds_toArray, List.set_cons_zero, List.set_cons_succ]
                refine rg_take 15 (v := ?rv224) rfl (by kernel_rfl) (by kernel_rfl) (by kernel_rfl) (fun _ _ _ h => h) (by rfl) hS (fun w2 hw2 => ?ry224) ?rr224
                case ry224 => ((try dsimp only at hw2); go_simp <;> with_reducible rfl)
                simp only [Act.put, List.setIfInBounds_toArray, List.set_cons_zero, List.set_cons_succ]
                refine rg_take 16 (v := ?rv225) rfl (by kernel_rfl) (by kernel_rfl) (by kernel_rfl) (fun _ _ _ h => h) (by rfl) hS (fun w2 hw2 => ?ry225) ?rr225
                case ry225 => ((try dsimp only at hw2); go_simp <;> with_reducible rfl)
                simp only [Act.put, List.setIfInBounds_toArray, List.set_cons_zero, List.set_cons_succ]
                refine rg_take 17 (v := ?rv226) rfl (by kernel_rfl) (by kernel_rfl) (by kernel_rfl) (fun _ _ _ h => h) (by rfl) hS (fun w2 hw2 => ?ry226) ?rr226
                case ry226 => ((try dsimp only at hw2); go_simp <;> with_reducible rfl)
                simp only [Act.put, List.setIfInBounds_toArray, List.set_cons_zero, List.set_cons_succ]
                refine rg_take 18 (v := ?rv227) rfl (by kernel_rfl) (by kernel_rfl) (by kernel_rfl) (fun _ _ _ h => h) (by rfl) hS (fun w2 hw2 => ?ry227) ?rr227
                case ry227 => ((try dsimp only at hw2); go_simp <;> with_reducible rfl)
                simp only [Act.put, List.setIfInBounds_toArray, List.set_cons_zero, List.set_cons_succ]
                refine rg_take 19 (v := ?rv228) rfl (by kernel_rfl) (by kernel_rfl) (by kernel_rfl) (fun _ _ _ h => h) (by rfl) hS (fun w2 hw2 => ?ry228) ?rr228
                case ry228 => ((try dsimp only at hw2); go_simp <;> with_reducible rfl)
                simp only [Act.put, List.setIfInBounds_toArray, List.set_cons_zero, List.set_cons_succ]
                have HS2 := Lib.hid (HC.out.1.later hS)
                refine rg_step 14 rfl (by kernel_rfl) (by rfl) (fun K hK => ?_)
                go_simp
                refine (HS2.out.qlen).mono ?_
                rintro ev w' ⟨rfl, rfl⟩
                rw [← HZ.out.2.2]
                refine hK.out _ _ hS ?_
                clear hK K
                try simp only [Act.put, List.setIfInBounds_toArray, List.set_cons_zero, List.set_cons_succ]
                refine rg_take 20 (v := ?rv229) rfl (by kernel_rfl) (by kernel_rfl) (by kernel_rfl) (fun _ _ _ h => h) (by rfl) hS (fun w2 hw2 => ?ry229) ?rr229
                case ry229 => ((try dsimp only at hw2); go_simp <;> with_reducible rfl)
                simp only [Act.put, List.setIfInBounds_toArray, List.set_cons_zero, List.set_cons_succ]
                refine rg_take 21 (v := ?rv230) rfl (by kernel_rfl) (by kernel_rfl) (by kernel_rfl) (fun _ _ _ h => h) (by rfl) hS (fun w2 hw2 => ?ry230) ?rr230
                case ry230 => ((try dsimp only at hw2); go_simp <;> with_reducible rfl)
                simp only [Act.put, List.setIfInBounds_toArray, List.set_cons_zero, List.set_cons_succ]
                refine rg_take 22 (v := ?rv231) rfl (by kernel_rfl) (by kernel_rfl) (by kernel_rfl) (fun _ _ _ h => h) (by rfl) hS (fun w2 hw2 => ?ry231) ?rr231
                case ry231 => ((try dsimp only at hw2); go_simp <;> with_reducible rfl)
                simp only [Act.put, List.setIfInBounds_toArray, List.set_cons_zero, List.set_cons_succ]
                refine rg_take 23 (v := ?rv232) rfl (by kernel_rfl) (by kernel_rfl) (by kernel_rfl) (fun _ _ _ h => h) (by rfl) hS (fun w2 hw2 => ?ry232) ?rr232
                case ry232 => ((try dsimp only at hw2); go_simp <;> with_reducible rfl)
                simp only [Act.put, List.setIfInBounds_toArray, List.set_cons_zero, List.set_cons_succ]
                refine rg_take 24 (v := ?rv233) rfl (by kernel_rfl) (by kernel_rfl) (by kernel_rfl) (fun _ _ _ h => h) (by rfl) hS (fun w2 hw2 => ?ry233) ?rr233
                case ry233 => ((try dsimp only at hw2); go_simp <;> with_reducible rfl)
                simp only [Act.put, List.setIfInBounds_toArray, List.set_cons_zero, List.set_cons_succ]
                refine rg_take 25 (v := ?rv234) rfl (by kernel_rfl) (by kernel_rfl) (by kernel_rfl) (fun _ _ _ h => h) (by rfl) hS (fun w2 hw2 => ?ry234) ?rr234
                case ry234 => ((try dsimp only at hw2); go_simp <;> with_reducible rfl)
                simp only [Act.put, List.setIfInBounds_toArray, List.set_cons_zero, List.set_cons_succ]
                refine rg_take 26 (v := ?rv235) rfl (by kernel_rfl) (by kernel_rfl) (by kernel_rfl) (fun _ _ _ h => h) (by rfl) hS (fun w2 hw2 => ?ry235) ?rr235
                case ry235 => ((try dsimp only at hw2); go_simp <;> with_reducible rfl)
                simp only [Act.put, List.setIfInBounds_toArray, List.set_cons_zero, List.set_cons_succ]
                refine rg_take 27 (v := ?rv236) rfl (by kernel_rfl) (by kernel_rfl) (by kernel_rfl) (fun _ _ _ h => h) (by rfl) hS (fun w2 hw2 => ?ry236) ?rr236
                case ry236 => ((try dsimp only at hw2); go_simp <;> with_reducible rfl)
                simp only [Act.put, List.setIfInBounds_toArray, List.set_cons_zero, List.set_cons_succ]
                refine rg_take 28 (v := ?rv237) rfl (by kernel_rfl) (by kernel_rfl) (by kernel_rfl) (fun _ _ _ h => h) (by rfl) hS (fun w2 hw2 => ?ry237) ?rr237
                case ry237 => ((try dsimp only at hw2); go_simp <;> with_reducible rfl)
                simp only [Act.put, List.setIfInBounds_toArray, List.set_cons_zero, List.set_cons_succ]
                refine rg_take 29 (v := ?rv238) rfl (by kernel_rfl) (by kernel_rfl) (by kernel_rfl) (fun _ _ _ h => h) (by rfl) hS (fun w2 hw2 => ?ry238) ?rr238
                case ry238 => ((try dsimp only at hw2); go_simp <;> with_reducible rfl)
                simp only [Act.put, List.setIfInBounds_toArray, List.set_cons_zero, List.set_cons_succ]
                refine rg_take 30 (v := ?rv239) rfl (by kernel_rfl) (by kernel_rfl) (by kernel_rfl) (fun _ _ _ h => h) (by rfl) hS (fun w2 hw2 => ?ry239) ?rr239
                case ry239 => ((try dsimp only at hw2); go_simp <;> with_reducible rfl)
                simp only [Act.put, List.setIfInBounds_toArray, List.set_cons_zero, List.set_cons_succ]
                refine rg_take 31 (v := ?rv240) rfl (by kernel_rfl) (by kernel_rfl) (by kernel_rfl) (fun _ _ _ h => h) (by rfl) hS (fun w2 hw2 => ?ry240) ?rr240
                case ry240 => ((try dsimp only at hw2); go_simp <;> with_reducible rfl)
                simp only [Act.put, List.setIfInBounds_toArray, List.set_cons_zero, List.set_cons_succ]
                refine rg_done (by kernel_rfl) ?_
                clear c1 hS z1 z2 z3 z4 z5 z6
                go_wp2_with fail
                exact ⟨⟨k + 1, zs, hkn, by omega, by go_num, hzl, HS2.out⟩, by simp [intOf]; omega⟩
    · have HPE := Lib.hid hp
      clear hp
      by_cases hkn1 : k < n
      · have hk120 : ¬ ((k : Int) < 120) := by omega
        have hkn2 : (k : Int) < (n : Int) := by omega
        go_wp2_with fail
        go_ret
        exact ⟨rfl, HPE.out.below⟩
      · have hkn2 : ¬ ((k : Int) < (n : Int)) := by omega
        go_wp2_with fail
        go_ret
        exact ⟨rfl, HPE.out.below⟩
    -->>
end Go.Proofs.YtdpmjbhkmfjpfaaDoor
