/-
  
-/
import Derived.Test.YtoagfmonfgagbaaGreatDoorZ48
import Derived.Deep.DeepCutAuto
namespace Go.Proofs.YtoagfmonfgagbaaGreatDoor
open Go.RowKit
set_option maxRecDepth 100000
def PlayD (w w' : World) (v1 v2 : Value) (x : Rs19) : Prop := A9O w' w.heap.size v1 x.servers ∧ RwO w' w.heap.size v2 (x.rules.map rwR) ∧ RightR fx x ∧ x.servers.length ≤ 5 ∧ x.rules.length ≤ 20 ∧ cost x ≤ 1300 ∧ Below w.heap.size w w' ∧ ∀ b, v1.ownBlock = some b → v2.ownBlock ≠ some b
def InvU (w : World) (s gp : Nat) (va vb : Value) (j : Nat) (wr : World) : Prop := ∃ v1 v2 x, RB wr (s + 2) (s + 2) v1 v2 x ∧ RightR fx x ∧ x.servers.length ≤ 5 ∧ x.rules.length ≤ j ∧ (∀ y ∈ x.rules, patLen y ≤ 62) ∧ RsBox wr s va vb ∧ RsBox wr (s + 1) (.slice none 0 0) (.slice none 0 0) ∧ Below s w wr ∧ s + 3 ≤ gp ∧ Row wr gp 3 plV ∧ ∀ i, Sg (s + 2) v1 v2 i → i ≠ gp
def InvS (w : World) (s : Nat) (va vb : Value) (k : Nat) (wr : World) : Prop := ∃ v1 ss1, RB wr (s + 2) (s + 2) v1 (.slice none 0 0) ⟨ss1, []⟩ ∧ SrvD ss1 ∧ ss1.length ≤ k ∧ RsBox wr s va vb ∧ RsBox wr (s + 1) (.slice none 0 0) (.slice none 0 0) ∧ Below s w wr ∧ s + 3 ≤ wr.heap.size
theorem i64_mod19 (a m : Int) (h0 : 0 < m) (h1 : m ≤ 1000000) : IntKind.i64.wrap ((IntKind.u64.wrap a).tmod m) = wrap64 ((IntKind.u64.wrap a).tmod m) := by
  have h : IntKind.u64.wrap a = a % 18446744073709551616 := rfl
  have h2 : 0 ≤ IntKind.u64.wrap a := by rw [h]; omega
  rw [Int.tmod_eq_emod_of_nonneg h2]
  have h3 := Int.emod_nonneg (IntKind.u64.wrap a) (show m ≠ 0 by omega)
  have h4 := Int.emod_lt_of_pos (IntKind.u64.wrap a) h0
  generalize IntKind.u64.wrap a % m = x at h3 h4
  rw [IntWalk.i64_in x (by omega), IntWalk.wrap64_in x (by omega)]
set_option maxHeartbeats 16000000 in
theorem playRules19 {A1 A2 : Option Addr} {n1 c1 n2 c2 : Nat} {ss : List Ad19} {us : List Rw} {w : World} (h1 : A9S w A1 n1 c1 ss) (h2 : RwS w A2 n2 c2 us) (hn : ∀ x ∈ us, x.name.length ≤ 9223372036854775807) :
    Calls Tryz.prog 10 #[.agg (rsv (.slice A1 n1 c1) (.slice A2 n2 c2))] w fun e w' => ∃ v1 v2 x, e = .returned (.agg (rsv v1 v2)) ∧ PlayD w w' v1 v2 x := by
  have hmx : Tryz.prog.follows .mixedOrders = true := by kernel_rfl
  obtain ⟨va, hva⟩ : ∃ va, Value.slice A1 n1 c1 = va := ⟨_, rfl⟩
  obtain ⟨vb, hvb⟩ : ∃ vb, Value.slice A2 n2 c2 = vb := ⟨_, rfl⟩
  rw [hva, hvb]
  obtain ⟨s, hs⟩ : ∃ s, w.heap.size = s := ⟨_, rfl⟩
  have q0 := World.alloc_heap_new w (.cells (rsv va vb) 25)
  have q1 := World.alloc_heap_new (w.alloc (.cells (rsv va vb) 25)) (.cells (rsv (.slice none 0 0) (.slice none 0 0)) 25)
  have q2 := World.alloc_heap_new ((w.alloc (.cells (rsv va vb) 25)).alloc (.cells (rsv (.slice none 0 0) (.slice none 0 0)) 25)) (.cells (rsv (.slice none 0 0) (.slice none 0 0)) 25)
  obtain ⟨W, hW⟩ : ∃ W, ((w.alloc (.cells (rsv va vb) 25)).alloc (.cells (rsv (.slice none 0 0) (.slice none 0 0)) 25)).alloc (.cells (rsv (.slice none 0 0) (.slice none 0 0)) 25) = W := ⟨_, rfl⟩
  have x0 : RsBox W s va vb := by rw [← hW]; exact alloc3_0 hs _ _ _
  have x1 : RsBox W (s + 1) (.slice none 0 0) (.slice none 0 0) := by rw [← hW]; exact alloc3_1 hs _ _ _
  have x2 : RsBox W (s + 2) (.slice none 0 0) (.slice none 0 0) := by rw [← hW]; exact alloc3_2 hs _ _ _
  have hz : W.heap.size = s + 3 := by rw [← hW]; simp [hs]
  have hbw : Below s w W := by rw [← hW]; exact (((Below.refl s w).alloc (by omega) _).alloc (by simp; omega) _).alloc (by simp; omega) _
  clear q0 q1 q2
  have hcap := h1.cap
  have hmax := h1.max
  have hcap2 := h2.cap
  have hmax2 := h2.max
  unfold maxLen at hmax hmax2
  have HH := Lib.hid (And.intro h1 (And.intro h2 (And.intro hn (And.intro hva hvb))))
  have HX := Lib.hid (And.intro x0 (And.intro x1 (And.intro x2 (And.intro hz hbw))))
  have hW' : (((w.alloc (.cells (rsv va vb) 25)).alloc (.cells #[.slice none 0 0, .slice none 0 0] 25)).alloc (.cells #[.slice none 0 0, .slice none 0 0] 25)) = W := hW
  have HW := Lib.hid hW'
  clear h1 h2 hn hva hvb x0 x1 x2 hz hbw hW hW'
  go_enter Tryz.func10, Tryz.ntmps10
  go_wp2_with (rw [HW.out])
  have k0 : W.cell? ⟨s, 0, none⟩ = some va := cell_of_row W s 0 _ _ _ HX.out.1
  rw [← HH.out.2.2.2.1] at k0
  go_loopw [4] (fun i wr => ∃ k : Nat, k ≤ n1 ∧ k ≤ 5 ∧ i = .int .i64 k ∧ Hid (InvS w s va vb k wr)) (fun i _ => n1 - (intOf i).toNat)
  case atStart => exact ⟨0, Nat.zero_le _, Nat.zero_le _, rfl, ⟨.slice none 0 0, [], ⟨HX.out.2.2.1, A9O.nil _ _, RwO.nil _ _, by simp [Value.ownBlock], by simp [Value.ownBlock], by simp [Value.ownBlock], Nat.le_refl _⟩, ⟨(fun a h => by cases h), List.nodup_nil⟩, Nat.le_refl _, HX.out.1, HX.out.2.1, HX.out.2.2.2.2, by rw [HX.out.2.2.2.1]; exact Nat.le_refl _⟩⟩
  case round =>
    obtain ⟨k, hk, hk5, rfl, HI0⟩ := hrel
    clear k0
    have k0 : wr.cell? ⟨s, 0, none⟩ = some (.slice A1 n1 c1) := by
      obtain ⟨_, _, _, _, _, hb, _⟩ := HI0.out
      rw [HH.out.2.2.2.1]
      exact cell_of_row wr s 0 _ _ _ hb
    obtain ⟨B, hB⟩ : ∃ B, (decide (k < n1) && decide (k < 5)) = B := ⟨_, rfl⟩
    go_upto_region 3 with fail
    go_cut [18] (fun q wx => q = .bool B ∧ wx = wr)
    case first =>
      by_cases hkn : k < n1
      · by_cases hk4 : k < 5
        · have e : B = true := by rw [← hB, decide_eq_true hkn, decide_eq_true hk4]; rfl
          have HE := Lib.hid e
          clear hB e
          go_wp2_with fail
          go_meet
          exact ⟨by rw [HE.out]; exact congrArg Value.bool (decide_eq_true (by omega)), rfl⟩
        · have e : B = false := by rw [← hB, decide_eq_true hkn, decide_eq_false hk4]; rfl
          have HE := Lib.hid e
          clear hB e
          go_wp2_with fail
          go_meet
          exact ⟨by rw [HE.out]; exact congrArg Value.bool (decide_eq_false (by omega)), rfl⟩
      · have e : B = false := by rw [← hB, decide_eq_false hkn]; rfl
        have HE := Lib.hid e
        clear hB e
        go_wp2_with fail
        go_meet
        exact ⟨by rw [HE.out], rfl⟩
    case rest =>
    obtain ⟨rfl, hwc⟩ := hcut
    have hwc2 := Eq.symm hwc
    clear hwc
    subst hwc2
    cases B with
    | true =>
        have hkn : k < n1 := by
          rw [Bool.and_eq_true] at hB
          exact of_decide_eq_true hB.1
        have hk4 : k < 5 := by
          rw [Bool.and_eq_true] at hB
          exact of_decide_eq_true hB.2
        clear hB
        obtain ⟨v1, ss1, irb, isr, ilen, i0, i1, iw, isz⟩ := HI0.out
        obtain ⟨x, hxk⟩ : ∃ x, ss[k]? = some x := ⟨ss[k]'(by have := HH.out.1.len; omega), List.getElem?_eq_getElem _⟩
        obtain ⟨b, off, hA, hrx⟩ := (HH.out.1.later iw (Nat.le_of_eq hs)).here k x hxk
        subst hA
        have hox := HH.out.1.ok x (List.mem_of_getElem? hxk)
        obtain ⟨B1, d1, rfl, hs1, _⟩ := A9S.of_own irb.s
        obtain ⟨m1, hm1⟩ : ∃ m, ss1.length = m := ⟨_, rfl⟩
        have hsl : (⟨ss1, []⟩ : Rs19).servers = ss1 := rfl
        rw [hsl, hm1] at irb hs1
        have HS1 := Lib.hid (fun (w' : World) (h : Below wr.heap.size wr w') => hs1.later h (Nat.le_refl _))
        have rk1 : ∀ w', Below wr.heap.size wr w' → w'.cell? ⟨s + 2, 0, none⟩ = some (.slice B1 m1 d1) := fun w' h => (irb.later h).cell0
        have rk2 : ∀ w', Below wr.heap.size wr w' → w'.cell? ⟨s, 0, none⟩ = some (.slice (some ⟨b, off, none⟩) n1 c1) := fun w' h => (h.cell (lt_cell k0)).trans k0
        have c34 : wr.cell? ⟨b, off + k * 17, none⟩ = some (.bool x.1) := hrx 0 _ (by rw [a9v]; rfl)
        have rk3 : ∀ w', Below wr.heap.size wr w' → w'.cell? ⟨b, off + k * 17, none⟩ = some (.bool x.1) := fun w' h => (h.cell (lt_cell c34)).trans c34
        have HP0 := fun w' => play_addr x.1 x.1 x.2 hox w'
        obtain ⟨vx, hvx⟩ : ∃ vx, adv x.1 x.2 = vx := ⟨_, rfl⟩
        obtain ⟨vy, hvy⟩ : ∃ vy, adv x.1 (norm x.1 x.2) = vy := ⟨_, rfl⟩
        rw [hvx, hvy] at HP0
        have HP := Lib.hid HP0
        have hsx : (Tryz.prog.info? 51).map (·.size) = some vx.size := by rw [← hvx]; exact ad_size x.1 hox
        have HV := Lib.hid (And.intro hsx (show wr.rangeAt b (off + k * 17) vx.toList by rw [← hvx]; exact hrx))
        have HY := Lib.hid (And.intro (show A9ok (x.1, norm x.1 x.2) from norm_len x.1 hox) hvy)
        have HI := Lib.hid (And.intro (And.intro irb (And.intro isr (And.intro i0 (And.intro i1 (And.intro iw (And.intro isz ilen)))))) (show m1 ≤ 5 by rw [← hm1]; omega))
        have HM := Lib.hid hm1
        clear irb isr ilen i0 i1 iw isz hxk hrx hox hs1 hm1 HP0 hvx hvy hsx c34 HI0 hsl
        go_upto_region 5 with fail
        clear k0
        go_cut [5] (fun p wx => ∃ g A3 m3 c3, p = .pointer (some ⟨g, 0, none⟩) ∧ RsBox wx g (.slice A3 m3 c3) (.slice none 0 0) ∧ A9O wx wr.heap.size (.slice A3 m3 c3) (ss1 ++ [(x.1, norm x.1 x.2)]) ∧ (ss1 ++ [(x.1, norm x.1 x.2)]).length = m3 ∧ wr.heap.size ≤ g ∧ Below wr.heap.size wr wx)
        case first =>
          have hS : Below wr.heap.size wr wr.drew := (Below.refl _ _).drew
          refine rg_begin (fun w' => Below wr.heap.size wr w') 20 (by kernel_rfl) rfl ?_
          refine rg_take 0 (v := ?rv1) rfl (by kernel_rfl) (by kernel_rfl) (by kernel_rfl) (fun _ _ _ h => h) (by rfl) hS (fun w2 hw2 => ?ry1) ?rr1
          case ry1 => ((try dsimp only at hw2); go_simp <;> with_reducible rfl)
          simp only [Act.put, List.setIfInBounds_toArray, List.set_cons_zero, List.set_cons_succ]
          refine rg_take 3 (v := ?rv2) rfl (by kernel_rfl) (by kernel_rfl) (by kernel_rfl) (fun _ _ _ h => h) (by rfl) hS (fun w2 hw2 => ?ry2) ?rr2
          case ry2 => ((try dsimp only at hw2); go_simp <;> with_reducible rfl)
          simp only [Act.put, List.setIfInBounds_toArray, List.set_cons_zero, List.set_cons_succ]
          refine rg_take 5 (v := ?rv3) rfl (by kernel_rfl) (by kernel_rfl) (by kernel_rfl) (fun _ _ _ h => h) (by rfl) hS (fun w2 hw2 => ?ry3) ?rr3
          case ry3 => ((try dsimp only at hw2); go_simp <;> with_reducible rfl)
          simp only [Act.put, List.setIfInBounds_toArray, List.set_cons_zero, List.set_cons_succ]
          refine rg_take 8 (v := ?rv4) rfl (by kernel_rfl) (by kernel_rfl) (by kernel_rfl) (fun _ _ _ h => h) (by rfl) hS (fun w2 hw2 => ?ry4) ?rr4
          case ry4 => ((try dsimp only at hw2); go_simp <;> with_reducible rfl)
          simp only [Act.put, List.setIfInBounds_toArray, List.set_cons_zero, List.set_cons_succ]
          refine rg_take 10 (v := ?rv5) rfl (by kernel_rfl) (by kernel_rfl) (by kernel_rfl) (fun _ _ _ h => h) (by rfl) hS (fun w2 hw2 => ?ry5) ?rr5
          case ry5 => ((try dsimp only at hw2); go_simp <;> with_reducible rfl)
          simp only [Act.put, List.setIfInBounds_toArray, List.set_cons_zero, List.set_cons_succ]
          refine rg_take 1 (v := ?rv6) rfl (by kernel_rfl) (by kernel_rfl) (by kernel_rfl) (fun _ _ _ h => h) (by rfl) hS (fun w2 hw2 => ?ry6) ?rr6
          case ry6 => ((try dsimp only at hw2); go_simp <;> with_reducible rfl)
          simp only [Act.put, List.setIfInBounds_toArray, List.set_cons_zero, List.set_cons_succ]
          refine rg_take 4 (v := ?rv7) rfl (by kernel_rfl) (by kernel_rfl) (by kernel_rfl) (fun _ _ _ h => h) (by rfl) hS (fun w2 hw2 => ?ry7) ?rr7
          case ry7 => ((try dsimp only at hw2); go_simp <;> with_reducible rfl)
          simp only [Act.put, List.setIfInBounds_toArray, List.set_cons_zero, List.set_cons_succ]
          refine rg_take 9 (v := ?rv8) rfl (by kernel_rfl) (by kernel_rfl) (by kernel_rfl) (fun _ _ _ h => h) (by rfl) hS (fun w2 hw2 => ?ry8) ?rr8
          case ry8 => ((try dsimp only at hw2); go_simp <;> with_reducible rfl)
          simp only [Act.put, List.setIfInBounds_toArray, List.set_cons_zero, List.set_cons_succ]
          refine rg_take 6 (v := ?rv9) rfl (by kernel_rfl) (by kernel_rfl) (by kernel_rfl) (fun _ _ _ h => h) (by rfl) hS (fun w2 hw2 => ?ry9) ?rr9
          case ry9 => ((try dsimp only at hw2); go_simp <;> with_reducible rfl)
          simp only [Act.put, List.setIfInBounds_toArray, List.set_cons_zero, List.set_cons_succ]
          refine rg_take 11 (v := ?rv10) rfl (by kernel_rfl) (by kernel_rfl) (by kernel_rfl) (fun _ _ _ h => h) (by rfl) hS (fun w2 hw2 => ?ry10) ?rr10
          case ry10 => ((try dsimp only at hw2); go_simp <;> with_reducible rfl)
          simp only [Act.put, List.setIfInBounds_toArray, List.set_cons_zero, List.set_cons_succ]
          refine rg_load 7 rfl (by kernel_rfl) (by kernel_rfl) (by kernel_rfl) b (off + k * 17) vx (fun _ _ _ h => h) (by rfl) 51 (.tmp 27) rfl rfl hS (fun w2 h2 => range_kept HV.out.2 h2 (Nat.le_refl _)) Tryz.underlying51 rfl HV.out.1 ?_
          simp only [Act.put, List.setIfInBounds_toArray, List.set_cons_zero, List.set_cons_succ]
          refine rg_take 12 (v := ?rv11) rfl (by kernel_rfl) (by kernel_rfl) (by kernel_rfl) (fun _ _ _ h => h) (by rfl) hS (fun w2 hw2 => ?ry11) ?rr11
          case ry11 => ((try dsimp only at hw2); go_simp <;> with_reducible rfl)
          simp only [Act.put, List.setIfInBounds_toArray, List.set_cons_zero, List.set_cons_succ]
          refine rg_take 13 (v := ?rv12) rfl (by kernel_rfl) (by kernel_rfl) (by kernel_rfl) (fun _ _ _ h => h) (by rfl) hS (fun w2 hw2 => ?ry12) ?rr12
          case ry12 => ((try dsimp only at hw2); go_simp <;> with_reducible rfl)
          simp only [Act.put, List.setIfInBounds_toArray, List.set_cons_zero, List.set_cons_succ]
          refine rg_any [2, 18] (by kernel_rfl) (by simp) ?_
          refine rg_or 2 rfl (by rfl) (fun K hK => ?_) ?_
          · refine wp_cat_a9 (.const (.slice none 0 0)) (.tmp 22) rfl wr.heap.size rfl rfl (HS1.out _ hS) (by have := HI.out.2; omega) hS.size ?_
            intro v2 u33 hR gR atR
            replace hS := hS.grown gR hS.size (fun k e => by cases e)
            clear gR atR
            refine hK.out _ _ hS ?_
            clear hK
            (try simp only [Act.put, List.setIfInBounds_toArray, List.set_cons_zero, List.set_cons_succ])
            refine rg_any [14, 18] (by kernel_rfl) (by simp) ?_
            refine rg_or 14 rfl (by rfl) (fun K hK => ?_) ?_
            · go_simp
              refine (HP.out _).mono ?_
              rintro e u34 ⟨rfl, bK⟩
              replace hR := hR.later bK
              replace hS := hS.trans (bK.mono hS.size)
              clear bK
              refine hK.out _ _ hS ?_
              clear hK
              (try simp only [Act.put, List.setIfInBounds_toArray, List.set_cons_zero, List.set_cons_succ])
              refine rg_any [15, 18] (by kernel_rfl) (by simp) ?_
              refine rg_or 15 rfl (by rfl) (fun K hK => ?_) ?_
              · refine wp_lit_a9 (.tmp 35) rfl (x.1, norm x.1 x.2) HY.out.1 (by show Value.agg vy = _; rw [← HY.out.2]; rfl) ?_
                have bK : Below u34.heap.size u34 (u34.alloc (.cells (a9v (x.1, norm x.1 x.2)) 51)) := (Below.refl _ _).alloc (Nat.le_refl _) _
                have hL := range_blk19 (World.alloc_heap_new u34 (.cells (a9v (x.1, norm x.1 x.2)) 51))
                obtain ⟨u35, hu⟩ : ∃ u, u34.alloc (.cells (a9v (x.1, norm x.1 x.2)) 51) = u := ⟨_, rfl⟩
                rw [hu] at bK hL ⊢
                clear hu
                replace hR := hR.later bK
                replace hS := hS.trans (bK.mono hS.size)
                clear bK
                refine hK.out _ _ hS ?_
                clear hK
                (try simp only [Act.put, List.setIfInBounds_toArray, List.set_cons_zero, List.set_cons_succ])
                refine rg_any [16, 18] (by kernel_rfl) (by simp) ?_
                refine rg_or 16 rfl (by rfl) (fun K hK => ?_) ?_
                · refine wp_push_a9 (.tmp 23) (.tmp 36) rfl wr.heap.size v2 ss1 rfl hR rfl hL HY.out.1 (by have := HI.out.2; have := HM.out; omega) hS.size ?_
                  intro v3 u36 hR3 gR atR
                  replace hS := hS.grown gR hS.size (fun k e => (hR.lt e).1)
                  replace hR := hR3
                  clear hR3 gR atR hL
                  refine hK.out _ _ hS ?_
                  clear hK
                  (try simp only [Act.put, List.setIfInBounds_toArray, List.set_cons_zero, List.set_cons_succ])
                  refine rg_any [17, 18] (by kernel_rfl) (by simp) ?_
                  refine rg_or 17 rfl (by rfl) (fun K hK => ?_) ?_
                  · obtain ⟨A3, c3, rfl, _, _⟩ := A9S.of_own hR
                    obtain ⟨m3, hm3⟩ : ∃ m, (ss1 ++ [(x.1, norm x.1 x.2)]).length = m := ⟨_, rfl⟩
                    rw [hm3] at hR ⊢
                    refine wp_build_rs1 (.tmp 37) rfl A3 m3 c3 rfl ?_
                    refine hK.out _ _ hS ?_
                    clear hK
                    (try simp only [Act.put, List.setIfInBounds_toArray, List.set_cons_zero, List.set_cons_succ])
                    refine rg_step 18 rfl (by kernel_rfl) (by rfl) (fun K hK => ?_)
                    have hN0 := fun b (hb : (Value.slice A3 m3 c3).ownBlock = some b) => (hR.lt hb).2
                    refine wp_alloc_rs rfl fun u38 hB bK zB => ?_
                    replace hR := hR.later bK
                    obtain ⟨g5, hg5⟩ : ∃ g, u36.heap.size = g := ⟨_, rfl⟩
                    have hN : ∀ b, (Value.slice A3 m3 c3).ownBlock = some b → b ≠ g5 := fun b hb => by have := hN0 b hb; omega
                    clear hN0
                    have hG : wr.heap.size ≤ g5 := by rw [← hg5]; exact hS.size
                    rw [hg5] at hB ⊢
                    replace hS := hS.trans (bK.mono hS.size)
                    clear bK zB hg5
                    refine hK.out _ _ hS ?_
                    clear hK
                    (try simp only [Act.put, List.setIfInBounds_toArray, List.set_cons_zero, List.set_cons_succ])
                    refine rg_step 19 rfl (by kernel_rfl) (by rfl) (fun K hK => ?_)
                    refine wp_store_rs (.tmp 5) (.tmp 38) rfl (.slice A3 m3 c3) (.slice none 0 0) rfl rfl rfl rfl hB fun u39 a3 o3 z3 b3 => ?_
                    replace hS := b3 wr.heap.size wr hG hS
                    replace hR := hR.kept fun b hb => o3 b (hN b hb)
                    refine hK.out _ _ hS ?_
                    clear hK
                    (try simp only [Act.put])
                    refine rg_done (by kernel_rfl) ?_
                    go_wp2_with fail
                    go_meet
                    exact ⟨_, A3, m3, c3, rfl, a3, hR, hm3, hG, hS⟩
                  refine rg_or 18 rfl (by rfl) (fun K hK => ?_) ?_
                  · have hN0 := fun b (hb : v3.ownBlock = some b) => (hR.lt hb).2
                    refine wp_alloc_rs rfl fun u40 hB bK zB => ?_
                    replace hR := hR.later bK
                    obtain ⟨g5, hg5⟩ : ∃ g, u36.heap.size = g := ⟨_, rfl⟩
                    have hN : ∀ b, v3.ownBlock = some b → b ≠ g5 := fun b hb => by have := hN0 b hb; omega
                    clear hN0
                    have hG : wr.heap.size ≤ g5 := by rw [← hg5]; exact hS.size
                    rw [hg5] at hB ⊢
                    replace hS := hS.trans (bK.mono hS.size)
                    clear bK zB hg5
                    refine hK.out _ _ hS ?_
                    clear hK
                    (try simp only [Act.put, List.setIfInBounds_toArray, List.set_cons_zero, List.set_cons_succ])
                    refine rg_step 17 rfl (by kernel_rfl) (by rfl) (fun K hK => ?_)
                    obtain ⟨A3, c3, rfl, _, _⟩ := A9S.of_own hR
                    obtain ⟨m3, hm3⟩ : ∃ m, (ss1 ++ [(x.1, norm x.1 x.2)]).length = m := ⟨_, rfl⟩
                    rw [hm3] at hR hN ⊢
                    refine wp_build_rs1 (.tmp 37) rfl A3 m3 c3 rfl ?_
                    refine hK.out _ _ hS ?_
                    clear hK
                    (try simp only [Act.put, List.setIfInBounds_toArray, List.set_cons_zero, List.set_cons_succ])
                    refine rg_step 19 rfl (by kernel_rfl) (by rfl) (fun K hK => ?_)
                    refine wp_store_rs (.tmp 5) (.tmp 38) rfl (.slice A3 m3 c3) (.slice none 0 0) rfl rfl rfl rfl hB fun u42 a3 o3 z3 b3 => ?_
                    replace hS := b3 wr.heap.size wr hG hS
                    replace hR := hR.kept fun b hb => o3 b (hN b hb)
                    refine hK.out _ _ hS ?_
                    clear hK
                    (try simp only [Act.put])
                    refine rg_done (by kernel_rfl) ?_
                    go_wp2_with fail
                    go_meet
                    exact ⟨_, A3, m3, c3, rfl, a3, hR, hm3, hG, hS⟩
                  exact AllReadyH.nil
                refine rg_or 18 rfl (by rfl) (fun K hK => ?_) ?_
                · have hN0 := fun b (hb : v2.ownBlock = some b) => (hR.lt hb).2
                  refine wp_alloc_rs rfl fun u43 hB bK zB => ?_
                  replace hR := hR.later bK
                  replace hL := range_kept hL bK (Nat.le_refl _)
                  obtain ⟨g5, hg5⟩ : ∃ g, u35.heap.size = g := ⟨_, rfl⟩
                  have hN : ∀ b, v2.ownBlock = some b → b ≠ g5 := fun b hb => by have := hN0 b hb; omega
                  clear hN0
                  have hG : wr.heap.size ≤ g5 := by rw [← hg5]; exact hS.size
                  rw [hg5] at hB ⊢
                  replace hS := hS.trans (bK.mono hS.size)
                  clear bK zB hg5
                  refine hK.out _ _ hS ?_
                  clear hK
                  (try simp only [Act.put, List.setIfInBounds_toArray, List.set_cons_zero, List.set_cons_succ])
                  refine rg_step 16 rfl (by kernel_rfl) (by rfl) (fun K hK => ?_)
                  refine wp_push_a9 (.tmp 23) (.tmp 36) rfl wr.heap.size v2 ss1 rfl hR rfl hL HY.out.1 (by have := HI.out.2; have := HM.out; omega) hS.size ?_
                  intro v3 u44 hR3 gR atR
                  have hlb := lt_blk hB
                  replace hB := (gR.block _ (lt_blk hB) (fun e => hN _ e.symm rfl)).trans hB
                  replace hN : ∀ b, v3.ownBlock = some b → b ≠ g5 := fun b hb => by rcases atR with e | e <;> rw [e] at hb; exact hN b hb; cases hb; omega
                  clear hlb
                  replace hS := hS.grown gR hS.size (fun k e => (hR.lt e).1)
                  replace hR := hR3
                  clear hR3 gR atR hL
                  refine hK.out _ _ hS ?_
                  clear hK
                  (try simp only [Act.put, List.setIfInBounds_toArray, List.set_cons_zero, List.set_cons_succ])
                  refine rg_step 17 rfl (by kernel_rfl) (by rfl) (fun K hK => ?_)
                  obtain ⟨A3, c3, rfl, _, _⟩ := A9S.of_own hR
                  obtain ⟨m3, hm3⟩ : ∃ m, (ss1 ++ [(x.1, norm x.1 x.2)]).length = m := ⟨_, rfl⟩
                  rw [hm3] at hR hN ⊢
                  refine wp_build_rs1 (.tmp 37) rfl A3 m3 c3 rfl ?_
                  refine hK.out _ _ hS ?_
                  clear hK
                  (try simp only [Act.put, List.setIfInBounds_toArray, List.set_cons_zero, List.set_cons_succ])
                  refine rg_step 19 rfl (by kernel_rfl) (by rfl) (fun K hK => ?_)
                  refine wp_store_rs (.tmp 5) (.tmp 38) rfl (.slice A3 m3 c3) (.slice none 0 0) rfl rfl rfl rfl hB fun u46 a3 o3 z3 b3 => ?_
                  replace hS := b3 wr.heap.size wr hG hS
                  replace hR := hR.kept fun b hb => o3 b (hN b hb)
                  refine hK.out _ _ hS ?_
                  clear hK
                  (try simp only [Act.put])
                  refine rg_done (by kernel_rfl) ?_
                  go_wp2_with fail
                  go_meet
                  exact ⟨_, A3, m3, c3, rfl, a3, hR, hm3, hG, hS⟩
                exact AllReadyH.nil
              refine rg_or 18 rfl (by rfl) (fun K hK => ?_) ?_
              · have hN0 := fun b (hb : v2.ownBlock = some b) => (hR.lt hb).2
                refine wp_alloc_rs rfl fun u47 hB bK zB => ?_
                replace hR := hR.later bK
                obtain ⟨g5, hg5⟩ : ∃ g, u34.heap.size = g := ⟨_, rfl⟩
                have hN : ∀ b, v2.ownBlock = some b → b ≠ g5 := fun b hb => by have := hN0 b hb; omega
                clear hN0
                have hG : wr.heap.size ≤ g5 := by rw [← hg5]; exact hS.size
                rw [hg5] at hB ⊢
                replace hS := hS.trans (bK.mono hS.size)
                clear bK zB hg5
                refine hK.out _ _ hS ?_
                clear hK
                (try simp only [Act.put, List.setIfInBounds_toArray, List.set_cons_zero, List.set_cons_succ])
                refine rg_step 15 rfl (by kernel_rfl) (by rfl) (fun K hK => ?_)
                refine wp_lit_a9 (.tmp 35) rfl (x.1, norm x.1 x.2) HY.out.1 (by show Value.agg vy = _; rw [← HY.out.2]; rfl) ?_
                have bK : Below u47.heap.size u47 (u47.alloc (.cells (a9v (x.1, norm x.1 x.2)) 51)) := (Below.refl _ _).alloc (Nat.le_refl _) _
                have hL := range_blk19 (World.alloc_heap_new u47 (.cells (a9v (x.1, norm x.1 x.2)) 51))
                obtain ⟨u48, hu⟩ : ∃ u, u47.alloc (.cells (a9v (x.1, norm x.1 x.2)) 51) = u := ⟨_, rfl⟩
                rw [hu] at bK hL ⊢
                clear hu
                replace hR := hR.later bK
                replace hB := (bK.block _ (lt_blk hB)).trans hB
                replace hS := hS.trans (bK.mono hS.size)
                clear bK
                refine hK.out _ _ hS ?_
                clear hK
                (try simp only [Act.put, List.setIfInBounds_toArray, List.set_cons_zero, List.set_cons_succ])
                refine rg_step 16 rfl (by kernel_rfl) (by rfl) (fun K hK => ?_)
                refine wp_push_a9 (.tmp 23) (.tmp 36) rfl wr.heap.size v2 ss1 rfl hR rfl hL HY.out.1 (by have := HI.out.2; have := HM.out; omega) hS.size ?_
                intro v3 u49 hR3 gR atR
                have hlb := lt_blk hB
                replace hB := (gR.block _ (lt_blk hB) (fun e => hN _ e.symm rfl)).trans hB
                replace hN : ∀ b, v3.ownBlock = some b → b ≠ g5 := fun b hb => by rcases atR with e | e <;> rw [e] at hb; exact hN b hb; cases hb; omega
                clear hlb
                replace hS := hS.grown gR hS.size (fun k e => (hR.lt e).1)
                replace hR := hR3
                clear hR3 gR atR hL
                refine hK.out _ _ hS ?_
                clear hK
                (try simp only [Act.put, List.setIfInBounds_toArray, List.set_cons_zero, List.set_cons_succ])
                refine rg_step 17 rfl (by kernel_rfl) (by rfl) (fun K hK => ?_)
                obtain ⟨A3, c3, rfl, _, _⟩ := A9S.of_own hR
                obtain ⟨m3, hm3⟩ : ∃ m, (ss1 ++ [(x.1, norm x.1 x.2)]).length = m := ⟨_, rfl⟩
                rw [hm3] at hR hN ⊢
                refine wp_build_rs1 (.tmp 37) rfl A3 m3 c3 rfl ?_
                refine hK.out _ _ hS ?_
                clear hK
                (try simp only [Act.put, List.setIfInBounds_toArray, List.set_cons_zero, List.set_cons_succ])
                refine rg_step 19 rfl (by kernel_rfl) (by rfl) (fun K hK => ?_)
                refine wp_store_rs (.tmp 5) (.tmp 38) rfl (.slice A3 m3 c3) (.slice none 0 0) rfl rfl rfl rfl hB fun u51 a3 o3 z3 b3 => ?_
                replace hS := b3 wr.heap.size wr hG hS
                replace hR := hR.kept fun b hb => o3 b (hN b hb)
                refine hK.out _ _ hS ?_
                clear hK
                (try simp only [Act.put])
                refine rg_done (by kernel_rfl) ?_
                go_wp2_with fail
                go_meet
                exact ⟨_, A3, m3, c3, rfl, a3, hR, hm3, hG, hS⟩
              exact AllReadyH.nil
            refine rg_or 18 rfl (by rfl) (fun K hK => ?_) ?_
            · have hN0 := fun b (hb : v2.ownBlock = some b) => (hR.lt hb).2
              refine wp_alloc_rs rfl fun u52 hB bK zB => ?_
              replace hR := hR.later bK
              obtain ⟨g5, hg5⟩ : ∃ g, u33.heap.size = g := ⟨_, rfl⟩
              have hN : ∀ b, v2.ownBlock = some b → b ≠ g5 := fun b hb => by have := hN0 b hb; omega
              clear hN0
              have hG : wr.heap.size ≤ g5 := by rw [← hg5]; exact hS.size
              rw [hg5] at hB ⊢
              replace hS := hS.trans (bK.mono hS.size)
              clear bK zB hg5
              refine hK.out _ _ hS ?_
              clear hK
              (try simp only [Act.put, List.setIfInBounds_toArray, List.set_cons_zero, List.set_cons_succ])
              refine rg_step 14 rfl (by kernel_rfl) (by rfl) (fun K hK => ?_)
              go_simp
              refine (HP.out _).mono ?_
              rintro e u53 ⟨rfl, bK⟩
              replace hR := hR.later bK
              replace hB := (bK.block _ (lt_blk hB)).trans hB
              replace hS := hS.trans (bK.mono hS.size)
              clear bK
              refine hK.out _ _ hS ?_
              clear hK
              (try simp only [Act.put, List.setIfInBounds_toArray, List.set_cons_zero, List.set_cons_succ])
              refine rg_step 15 rfl (by kernel_rfl) (by rfl) (fun K hK => ?_)
              refine wp_lit_a9 (.tmp 35) rfl (x.1, norm x.1 x.2) HY.out.1 (by show Value.agg vy = _; rw [← HY.out.2]; rfl) ?_
              have bK : Below u53.heap.size u53 (u53.alloc (.cells (a9v (x.1, norm x.1 x.2)) 51)) := (Below.refl _ _).alloc (Nat.le_refl _) _
              have hL := range_blk19 (World.alloc_heap_new u53 (.cells (a9v (x.1, norm x.1 x.2)) 51))
              obtain ⟨u54, hu⟩ : ∃ u, u53.alloc (.cells (a9v (x.1, norm x.1 x.2)) 51) = u := ⟨_, rfl⟩
              rw [hu] at bK hL ⊢
              clear hu
              replace hR := hR.later bK
              replace hB := (bK.block _ (lt_blk hB)).trans hB
              replace hS := hS.trans (bK.mono hS.size)
              clear bK
              refine hK.out _ _ hS ?_
              clear hK
              (try simp only [Act.put, List.setIfInBounds_toArray, List.set_cons_zero, List.set_cons_succ])
              refine rg_step 16 rfl (by kernel_rfl) (by rfl) (fun K hK => ?_)
              refine wp_push_a9 (.tmp 23) (.tmp 36) rfl wr.heap.size v2 ss1 rfl hR rfl hL HY.out.1 (by have := HI.out.2; have := HM.out; omega) hS.size ?_
              intro v3 u55 hR3 gR atR
              have hlb := lt_blk hB
              replace hB := (gR.block _ (lt_blk hB) (fun e => hN _ e.symm rfl)).trans hB
              replace hN : ∀ b, v3.ownBlock = some b → b ≠ g5 := fun b hb => by rcases atR with e | e <;> rw [e] at hb; exact hN b hb; cases hb; omega
              clear hlb
              replace hS := hS.grown gR hS.size (fun k e => (hR.lt e).1)
              replace hR := hR3
              clear hR3 gR atR hL
              refine hK.out _ _ hS ?_
              clear hK
              (try simp only [Act.put, List.setIfInBounds_toArray, List.set_cons_zero, List.set_cons_succ])
              refine rg_step 17 rfl (by kernel_rfl) (by rfl) (fun K hK => ?_)
              obtain ⟨A3, c3, rfl, _, _⟩ := A9S.of_own hR
              obtain ⟨m3, hm3⟩ : ∃ m, (ss1 ++ [(x.1, norm x.1 x.2)]).length = m := ⟨_, rfl⟩
              rw [hm3] at hR hN ⊢
              refine wp_build_rs1 (.tmp 37) rfl A3 m3 c3 rfl ?_
              refine hK.out _ _ hS ?_
              clear hK
              (try simp only [Act.put, List.setIfInBounds_toArray, List.set_cons_zero, List.set_cons_succ])
              refine rg_step 19 rfl (by kernel_rfl) (by rfl) (fun K hK => ?_)
              refine wp_store_rs (.tmp 5) (.tmp 38) rfl (.slice A3 m3 c3) (.slice none 0 0) rfl rfl rfl rfl hB fun u57 a3 o3 z3 b3 => ?_
              replace hS := b3 wr.heap.size wr hG hS
              replace hR := hR.kept fun b hb => o3 b (hN b hb)
              refine hK.out _ _ hS ?_
              clear hK
              (try simp only [Act.put])
              refine rg_done (by kernel_rfl) ?_
              go_wp2_with fail
              go_meet
              exact ⟨_, A3, m3, c3, rfl, a3, hR, hm3, hG, hS⟩
            exact AllReadyH.nil
          refine rg_or 18 rfl (by rfl) (fun K hK => ?_) ?_
          · refine wp_alloc_rs rfl fun u58 hB bK zB => ?_
            obtain ⟨g5, hg5⟩ : ∃ g, wr.drew.heap.size = g := ⟨_, rfl⟩
            have hG : wr.heap.size ≤ g5 := by rw [← hg5]; exact hS.size
            rw [hg5] at hB ⊢
            replace hS := hS.trans (bK.mono hS.size)
            clear bK zB hg5
            refine hK.out _ _ hS ?_
            clear hK
            (try simp only [Act.put, List.setIfInBounds_toArray, List.set_cons_zero, List.set_cons_succ])
            refine rg_step 2 rfl (by kernel_rfl) (by rfl) (fun K hK => ?_)
            refine wp_cat_a9 (.const (.slice none 0 0)) (.tmp 22) rfl wr.heap.size rfl rfl (HS1.out _ hS) (by have := HI.out.2; omega) hS.size ?_
            intro v2 u59 hR gR atR
            have hN : ∀ b, v2.ownBlock = some b → b ≠ g5 := fun b hb => by have hlb := lt_blk hB; rcases atR with e | e <;> rw [e] at hb <;> cases hb; omega
            replace hB := (gR.block _ (lt_blk hB) (by simp)).trans hB
            replace hS := hS.grown gR hS.size (fun k e => by cases e)
            clear gR atR
            refine hK.out _ _ hS ?_
            clear hK
            (try simp only [Act.put, List.setIfInBounds_toArray, List.set_cons_zero, List.set_cons_succ])
            refine rg_step 14 rfl (by kernel_rfl) (by rfl) (fun K hK => ?_)
            go_simp
            refine (HP.out _).mono ?_
            rintro e u60 ⟨rfl, bK⟩
            replace hR := hR.later bK
            replace hB := (bK.block _ (lt_blk hB)).trans hB
            replace hS := hS.trans (bK.mono hS.size)
            clear bK
            refine hK.out _ _ hS ?_
            clear hK
            (try simp only [Act.put, List.setIfInBounds_toArray, List.set_cons_zero, List.set_cons_succ])
            refine rg_step 15 rfl (by kernel_rfl) (by rfl) (fun K hK => ?_)
            refine wp_lit_a9 (.tmp 35) rfl (x.1, norm x.1 x.2) HY.out.1 (by show Value.agg vy = _; rw [← HY.out.2]; rfl) ?_
            have bK : Below u60.heap.size u60 (u60.alloc (.cells (a9v (x.1, norm x.1 x.2)) 51)) := (Below.refl _ _).alloc (Nat.le_refl _) _
            have hL := range_blk19 (World.alloc_heap_new u60 (.cells (a9v (x.1, norm x.1 x.2)) 51))
            obtain ⟨u61, hu⟩ : ∃ u, u60.alloc (.cells (a9v (x.1, norm x.1 x.2)) 51) = u := ⟨_, rfl⟩
            rw [hu] at bK hL ⊢
            clear hu
            replace hR := hR.later bK
            replace hB := (bK.block _ (lt_blk hB)).trans hB
            replace hS := hS.trans (bK.mono hS.size)
            clear bK
            refine hK.out _ _ hS ?_
            clear hK
            (try simp only [Act.put, List.setIfInBounds_toArray, List.set_cons_zero, List.set_cons_succ])
            refine rg_step 16 rfl (by kernel_rfl) (by rfl) (fun K hK => ?_)
            refine wp_push_a9 (.tmp 23) (.tmp 36) rfl wr.heap.size v2 ss1 rfl hR rfl hL HY.out.1 (by have := HI.out.2; have := HM.out; omega) hS.size ?_
            intro v3 u62 hR3 gR atR
            have hlb := lt_blk hB
            replace hB := (gR.block _ (lt_blk hB) (fun e => hN _ e.symm rfl)).trans hB
            replace hN : ∀ b, v3.ownBlock = some b → b ≠ g5 := fun b hb => by rcases atR with e | e <;> rw [e] at hb; exact hN b hb; cases hb; omega
            clear hlb
            replace hS := hS.grown gR hS.size (fun k e => (hR.lt e).1)
            replace hR := hR3
            clear hR3 gR atR hL
            refine hK.out _ _ hS ?_
            clear hK
            (try simp only [Act.put, List.setIfInBounds_toArray, List.set_cons_zero, List.set_cons_succ])
            refine rg_step 17 rfl (by kernel_rfl) (by rfl) (fun K hK => ?_)
            obtain ⟨A3, c3, rfl, _, _⟩ := A9S.of_own hR
            obtain ⟨m3, hm3⟩ : ∃ m, (ss1 ++ [(x.1, norm x.1 x.2)]).length = m := ⟨_, rfl⟩
            rw [hm3] at hR hN ⊢
            refine wp_build_rs1 (.tmp 37) rfl A3 m3 c3 rfl ?_
            refine hK.out _ _ hS ?_
            clear hK
            (try simp only [Act.put, List.setIfInBounds_toArray, List.set_cons_zero, List.set_cons_succ])
            refine rg_step 19 rfl (by kernel_rfl) (by rfl) (fun K hK => ?_)
            refine wp_store_rs (.tmp 5) (.tmp 38) rfl (.slice A3 m3 c3) (.slice none 0 0) rfl rfl rfl rfl hB fun u64 a3 o3 z3 b3 => ?_
            replace hS := b3 wr.heap.size wr hG hS
            replace hR := hR.kept fun b hb => o3 b (hN b hb)
            refine hK.out _ _ hS ?_
            clear hK
            (try simp only [Act.put])
            refine rg_done (by kernel_rfl) ?_
            go_wp2_with fail
            go_meet
            exact ⟨_, A3, m3, c3, rfl, a3, hR, hm3, hG, hS⟩
          exact AllReadyH.nil
        case rest =>
          obtain ⟨g5, A3, m3, c3, rfl, hB, hR, hm3, hG, hS⟩ := hcut
          have hr3 : A9S wc A3 m3 c3 (ss1 ++ [(x.1, norm x.1 x.2)]) := by
            obtain ⟨A', c', e, h, _⟩ := A9S.of_own hR
            rw [hm3] at e h
            cases e
            exact h
          have HK := Lib.hid (rightRules19 hr3 (RwS.nil wc) (fun x h => by cases h))
          have HC := Lib.hid (And.intro hB (And.intro hR (And.intro hm3 (And.intro hG hS))))
          clear hB hR hm3 hG hS hr3 rk1 rk2 rk3
          go_wp2_with (first
            | (refine wpList_load_rs rfl (.tmp 5) rfl rfl HC.out.1 ?_))
          refine HK.out.mono ?_
          rintro e w5 ⟨⟨q, rfl, hq⟩, b5⟩
          have hb5 := HC.out.2.2.2.2.trans (b5.mono HC.out.2.2.2.2.size)
          have hbx := (b5.block _ (lt_blk HC.out.1)).trans HC.out.1
          have H5 := Lib.hid (And.intro hq (And.intro hb5 (And.intro hbx (HC.out.2.1.later b5))))
          have hrb5 := HI.out.1.1.later hb5
          have h05 : RsBox w5 s va vb := (hb5.block _ (lt_blk HI.out.1.2.2.1)).trans HI.out.1.2.2.1
          have h15 : RsBox w5 (s + 1) (.slice none 0 0) (.slice none 0 0) := (hb5.block _ (lt_blk HI.out.1.2.2.2.1)).trans HI.out.1.2.2.2.1
          have hw5 := HI.out.1.2.2.2.2.1.trans (hb5.mono (by have := HI.out.1.2.2.2.2.2.1; omega))
          have hz5 : s + 3 ≤ w5.heap.size := Nat.le_trans HI.out.1.2.2.2.2.2.1 hb5.size
          have HF := Lib.hid (And.intro hrb5 (And.intro h05 (And.intro h15 (And.intro hw5 hz5))))
          clear hq b5 hb5 hbx hrb5 h05 h15 hw5 hz5
          cases q with
          | false =>
            go_wp2_with fail
            exact ⟨⟨k + 1, hkn, hk4, by go_num, _, ss1, HF.out.1, HI.out.1.2.1, Nat.le_succ_of_le HI.out.1.2.2.2.2.2.2, HF.out.2.1, HF.out.2.2.1, HF.out.2.2.2.1, HF.out.2.2.2.2⟩, by simp [intOf]; omega⟩
          | true =>
            have k5 : w5.cell? ⟨g5, 0, none⟩ = some (.slice A3 m3 c3) := cell_of_row w5 g5 0 _ _ _ H5.out.2.2.1
            have k6 := HF.out.1.cell0
            have k7 : w5.frozen? ⟨s + 2, 0, none⟩ = false := by simp [World.frozen?, HF.out.1.box]
            go_wp2_with fail
            have hgood := H5.out.1 trivial
            have hsz := HI.out.1.2.2.2.2.2.1
            have hset := HF.out.1.set1 (H5.out.2.2.2.base (base' := s + 2) (by omega)) (fun b hb => ⟨by have := (H5.out.2.2.2.lt hb).1; omega, by simp [Value.ownBlock]⟩)
            have hfar : ∀ i, i ≠ s + 2 → (w5.setCell ⟨s + 2, 0, none⟩ (.slice A3 m3 c3)).heap[i]? = w5.heap[i]? := fun i hi => Below.heap_setCell w5 ⟨s + 2, 0, none⟩ _ i hi
            exact ⟨⟨k + 1, hkn, hk4, by go_num, _, ss1 ++ [(x.1, norm x.1 x.2)], hset, hgood.2.2.1, by rw [List.length_append]; have := HI.out.1.2.2.2.2.2.2; simp; exact this, (hfar s (by omega)).trans HF.out.2.1, (hfar (s + 1) (by omega)).trans HF.out.2.2.1, HF.out.2.2.2.1.setCell (p := ⟨s + 2, 0, none⟩) (by show s ≤ s + 2; omega) _, by rw [World.size_setCell]; exact HF.out.2.2.2.2⟩, by simp [intOf]; omega⟩
    | false =>
      obtain ⟨v1, ss1, irb, isr, ilen, i0, i1, iw, isz⟩ := HI0.out
      have hright : RightR fx (⟨ss1, []⟩ : Rs19) := ⟨by show ss1.length ≤ 20; omega, (fun a ha => by
        show (a.2.length == 16 && rightv a.1 a.2) = true
        rw [isr.1 a ha, Bool.and_true, beq_iff_eq]
        exact irb.s.2 a ha), isr.2, Nat.zero_le _, fun x hx => by cases hx⟩
      have HI := Lib.hid (And.intro irb (And.intro hright (And.intro i0 (And.intro i1 (And.intro iw (And.intro isz (show ss1.length ≤ 5 by omega)))))))
      clear irb isr ilen i0 i1 iw isz hright HI0 hB k0
      go_upto_region 9 with fail
      have hrow := Row.new' wr 3 (cs := #[.int .i64 6, .int .i64 17, .int .i64 1, .int .i64 256]) (vs := plV) rfl
      have hba : Below wr.heap.size wr (wr.alloc (.cells #[.int .i64 6, .int .i64 17, .int .i64 1, .int .i64 256] 3)) := (Below.refl _ _).alloc (Nat.le_refl _) _
      obtain ⟨WA, hWA⟩ : ∃ WA, wr.alloc (.cells #[.int .i64 6, .int .i64 17, .int .i64 1, .int .i64 256] 3) = WA := ⟨_, rfl⟩
      rw [hWA] at hrow hba ⊢
      obtain ⟨gp, hgp⟩ : ∃ gp, wr.heap.size = gp := ⟨_, rfl⟩
      rw [hgp] at hrow ⊢
      have hIU : InvU w s gp va vb 0 WA := ⟨v1, .slice none 0 0, ⟨ss1, []⟩, HI.out.1.later hba, HI.out.2.1, HI.out.2.2.2.2.2.2, Nat.le_refl _, (fun y hy => by cases hy), (hba.block _ (lt_blk HI.out.2.2.1)).trans HI.out.2.2.1, (hba.block _ (lt_blk HI.out.2.2.2.1)).trans HI.out.2.2.2.1, HI.out.2.2.2.2.1.trans (hba.mono (by have := HI.out.2.2.2.2.2.1; omega)), by have := HI.out.2.2.2.2.2.1; omega, hrow, fun i hi => by have := HI.out.1.sg_lt hi; omega⟩
      have HIU := Lib.hid hIU
      clear hIU hrow hba hWA hgp HI
      go_wp2_with fail
      go_loopw [7] (fun i wr => ∃ j : Nat, j ≤ n2 ∧ j ≤ 20 ∧ i = .int .i64 j ∧ Hid (InvU w s gp va vb j wr)) (fun i _ => n2 - (intOf i).toNat)
      case atStart => exact ⟨0, Nat.zero_le _, Nat.zero_le _, rfl, HIU.out⟩
      case round =>
        clear HIU
        obtain ⟨j, hj, hj20, rfl, HI0⟩ := hrel
        have k1 : wr.cell? ⟨s, 1, none⟩ = some (.slice A2 n2 c2) := by
          obtain ⟨_, _, _, _, _, _, _, _, hb, _⟩ := HI0.out
          rw [HH.out.2.2.2.2]
          exact cell_of_row wr s 1 _ _ _ hb
        obtain ⟨B, hB⟩ : ∃ B, (decide (j < n2) && decide (j < 20)) = B := ⟨_, rfl⟩
        go_upto_region 10 with fail
        go_cut [53] (fun q wx => q = .bool B ∧ wx = wr)
        case first =>
          by_cases hjn : j < n2
          · by_cases hj4 : j < 20
            · have e : B = true := by rw [← hB, decide_eq_true hjn, decide_eq_true hj4]; rfl
              have HE := Lib.hid e
              clear hB e
              go_wp2_with fail
              go_meet
              exact ⟨by rw [HE.out]; exact congrArg Value.bool (decide_eq_true (by omega)), rfl⟩
            · have e : B = false := by rw [← hB, decide_eq_true hjn, decide_eq_false hj4]; rfl
              have HE := Lib.hid e
              clear hB e
              go_wp2_with fail
              go_meet
              exact ⟨by rw [HE.out]; exact congrArg Value.bool (decide_eq_false (by omega)), rfl⟩
          · have e : B = false := by rw [← hB, decide_eq_false hjn]; rfl
            have HE := Lib.hid e
            clear hB e
            go_wp2_with fail
            go_meet
            exact ⟨by rw [HE.out], rfl⟩
        case rest =>
        obtain ⟨rfl, hwc⟩ := hcut
        have hwc2 := Eq.symm hwc
        clear hwc
        subst hwc2
        cases B with
        | true =>
            have hjn : j < n2 := by
              rw [Bool.and_eq_true] at hB
              exact of_decide_eq_true hB.1
            have hj4 : j < 20 := by
              rw [Bool.and_eq_true] at hB
              exact of_decide_eq_true hB.2
            clear hB
            obtain ⟨v1, v2, xs, irb, irt, is5, irl, ipl, i0, i1, iw, igp, irw, isg⟩ := HI0.out
            obtain ⟨x, hxk⟩ : ∃ x, us[j]? = some x := ⟨us[j]'(by have := HH.out.2.1.len; omega), List.getElem?_eq_getElem _⟩
            obtain ⟨b, off, hA, hrx⟩ := (HH.out.2.1.later iw (Nat.le_of_eq hs)).here j x hxk
            subst hA
            have hox := HH.out.2.1.ok x (List.mem_of_getElem? hxk)
            have hxn := HH.out.2.2.1 x (List.mem_of_getElem? hxk)
            have HV := Lib.hid (And.intro hrx (And.intro hox hxn))
            have HI := Lib.hid (And.intro irb (And.intro irt (And.intro is5 (And.intro irl (And.intro ipl (And.intro i0 (And.intro i1 (And.intro iw (And.intro igp (And.intro irw isg))))))))))
            clear irb irt is5 irl ipl i0 i1 iw igp irw isg hxk hrx hox hxn HI0
            go_upto_region 13 with (first
              | (refine wpList_load_rw rfl (.tmp 59) rfl rfl HV.out.2.1 HV.out.1 ?_)
              | (refine wpList_alloc_rw rfl rfl ?_; intro w1 a1 b1 z1; have H1 := Lib.hid (And.intro a1 b1); clear a1 b1 z1)
              | (refine wpList_store_rw rfl (.tmp 8) (.tmp 60) rfl x rfl rfl HV.out.2.1 H1.out.1 ?_; intro w2 a2 o2 z2 b2; have H2 := Lib.hid (And.intro a2 (b2 wr.heap.size wr (Nat.le_refl _) H1.out.2)); clear a2 o2 z2 b2))
            clear k1
            obtain ⟨r0, r1, r2, r21, r22, r23, rn⟩ := H2.out.1.cells
            have rx0 : ∀ w', Below w2.heap.size w2 w' → w'.cell? ⟨wr.heap.size, 0, none⟩ = some (.bool x.allow) := fun w' h => (h.cell (lt_cell r0)).trans r0
            have rx21 : ∀ w', Below w2.heap.size w2 w' → w'.cell? ⟨wr.heap.size, 21, none⟩ = some (.int .i64 x.proto) := fun w' h => (h.cell (lt_cell r21)).trans r21
            have rx22 : ∀ w', Below w2.heap.size w2 w' → w'.cell? ⟨wr.heap.size, 22, none⟩ = some (.int .i64 x.low) := fun w' h => (h.cell (lt_cell r22)).trans r22
            have rx23 : ∀ w', Below w2.heap.size w2 w' → w'.cell? ⟨wr.heap.size, 23, none⟩ = some (.int .i64 x.high) := fun w' h => (h.cell (lt_cell r23)).trans r23
            obtain ⟨q1, q2⟩ := num_mod19 x.proto 4 (by omega) (by omega)
            obtain ⟨kq, hkq⟩ : ∃ kq : Nat, wrap64 ((IntKind.u64.wrap x.proto).tmod 4) = (kq : Int) := ⟨_, (Int.toNat_of_nonneg q1).symm⟩
            have hkq4 : kq < 4 := by omega
            obtain ⟨pz, hpz⟩ : ∃ pz, plZ[kq]? = some pz := ⟨_, List.getElem?_eq_getElem (by show kq < 4; exact hkq4)⟩
            have hrow2 := HI.out.2.2.2.2.2.2.2.2.2.1.later H2.out.2 (Nat.le_refl _)
            have rpl : ∀ w', Below w2.heap.size w2 w' → w'.cell? ⟨gp, kq, none⟩ = some (.int .i64 pz) := fun w' h => (hrow2.later h (Nat.le_refl _)).cell (plV_at hpz)
            have i4 : (kq : Int) < 4 := by omega
            have i5 : (0 : Int) ≤ (kq : Int) := by omega
            obtain ⟨u1, u2⟩ := num_mod19 x.low 65536 (by omega) (by omega)
            obtain ⟨p1, hp1⟩ : ∃ p1 : Nat, wrap64 ((IntKind.u64.wrap x.low).tmod 65536) = (p1 : Int) := ⟨_, (Int.toNat_of_nonneg u1).symm⟩
            obtain ⟨u3, u4⟩ := num_mod19 x.high 65536 (by omega) (by omega)
            obtain ⟨p2, hp2⟩ : ∃ p2 : Nat, wrap64 ((IntKind.u64.wrap x.high).tmod 65536) = (p2 : Int) := ⟨_, (Int.toNat_of_nonneg u3).symm⟩
            have HPA := fun w' => playPort19 x.low w'
            have HPB := fun w' => playPort19 x.high w'
            rw [hp1] at HPA
            rw [hp2] at HPB
            have HP1 := Lib.hid HPA
            have HP2 := Lib.hid HPB
            have HZ := Lib.hid (And.intro hkq (And.intro hpz (And.intro (show p1 < 65536 by omega) (show p2 < 65536 by omega))))
            have HKQ := Lib.hid ((i64_mod19 x.proto 4 (by omega) (by omega)).trans hkq)
            obtain ⟨lo, hlo⟩ : ∃ lo : Int, min (p1 : Int) (p2 : Int) = lo := ⟨_, rfl⟩
            obtain ⟨hi, hhi⟩ : ∃ hi : Int, max (p1 : Int) (p2 : Int) = hi := ⟨_, rfl⟩
            have HLH := Lib.hid (And.intro hlo hhi)
            clear hlo hhi
            obtain ⟨Y, hY⟩ : ∃ Y : Rw, (⟨x.allow, [], false, false, List.replicate 16 0, 0, pz, lo, hi⟩ : Rw) = Y := ⟨_, rfl⟩
            have hYok : Y.ok := by rw [← hY]; rfl
            have HYY := Lib.hid (And.intro hY hYok)
            clear hY hYok
            clear q1 q2 u1 u2 u3 u4 hkq hp1 hp2 hpz HPA HPB hrow2 r0 r1 r2 r21 r22 r23 rn
            simp only [Act.put, List.setIfInBounds_toArray, List.set_cons_zero, List.set_cons_succ]
            go_cut [9] (fun p wx => ∃ g, p = .pointer (some ⟨g, 0, none⟩) ∧ RwBox wx g Y ∧ w2.heap.size ≤ g ∧ Below w2.heap.size w2 wx)
            case first =>
              have hS : Below w2.heap.size w2 w2.drew := (Below.refl _ _).drew
              refine rg_begin (fun w' => Below w2.heap.size w2 w') 27 (by kernel_rfl) rfl ?_
              refine rg_take 0 (v := ?rv13) rfl (by kernel_rfl) (by kernel_rfl) (by kernel_rfl) (fun _ _ _ h => h) (by rfl) hS (fun w2 hw2 => ?ry13) ?rr13
              case ry13 => ((try dsimp only at hw2); go_simp <;> with_reducible rfl)
              simp only [Act.put, List.setIfInBounds_toArray, List.set_cons_zero, List.set_cons_succ]
              refine rg_take 2 (v := ?rv14) rfl (by kernel_rfl) (by kernel_rfl) (by kernel_rfl) (fun _ _ _ h => h) (by rfl) hS (fun w2 hw2 => ?ry14) ?rr14
              case ry14 => ((try dsimp only at hw2); go_simp <;> with_reducible rfl)
              simp only [Act.put, List.setIfInBounds_toArray, List.set_cons_zero, List.set_cons_succ]
              refine rg_take 3 (v := ?rv15) rfl (by kernel_rfl) (by kernel_rfl) (by kernel_rfl) (fun _ _ _ h => h) (by rfl) hS (fun w2 hw2 => ?ry15) ?rr15
              case ry15 => ((try dsimp only at hw2); go_simp <;> with_reducible rfl)
              simp only [Act.put, List.setIfInBounds_toArray, List.set_cons_zero, List.set_cons_succ]
              refine rg_take 10 (v := ?rv16) rfl (by kernel_rfl) (by kernel_rfl) (by kernel_rfl) (fun _ _ _ h => h) (by rfl) hS (fun w2 hw2 => ?ry16) ?rr16
              case ry16 => ((try dsimp only at hw2); go_simp <;> with_reducible rfl)
              simp only [Act.put, List.setIfInBounds_toArray, List.set_cons_zero, List.set_cons_succ]
              refine rg_take 13 (v := ?rv17) rfl (by kernel_rfl) (by kernel_rfl) (by kernel_rfl) (fun _ _ _ h => h) (by rfl) hS (fun w2 hw2 => ?ry17) ?rr17
              case ry17 => ((try dsimp only at hw2); go_simp <;> with_reducible rfl)
              simp only [Act.put, List.setIfInBounds_toArray, List.set_cons_zero, List.set_cons_succ]
              refine rg_take 17 (v := ?rv18) rfl (by kernel_rfl) (by kernel_rfl) (by kernel_rfl) (fun _ _ _ h => h) (by rfl) hS (fun w2 hw2 => ?ry18) ?rr18
              case ry18 => ((try dsimp only at hw2); go_simp <;> with_reducible rfl)
              simp only [Act.put, List.setIfInBounds_toArray, List.set_cons_zero, List.set_cons_succ]
              refine rg_take 20 (v := ?rv19) rfl (by kernel_rfl) (by kernel_rfl) (by kernel_rfl) (fun _ _ _ h => h) (by rfl) hS (fun w2 hw2 => ?ry19) ?rr19
              case ry19 => ((try dsimp only at hw2); go_simp <;> with_reducible rfl)
              simp only [Act.put, List.setIfInBounds_toArray, List.set_cons_zero, List.set_cons_succ]
              refine rg_take 1 (v := ?rv20) rfl (by kernel_rfl) (by kernel_rfl) (by kernel_rfl) (fun _ _ _ h => h) (by rfl) hS (fun w2 hw2 => ?ry20) ?rr20
              case ry20 => ((try dsimp only at hw2); go_simp <;> with_reducible rfl)
              simp only [Act.put, List.setIfInBounds_toArray, List.set_cons_zero, List.set_cons_succ]
              refine rg_take 4 (v := ?rv21) rfl (by kernel_rfl) (by kernel_rfl) (by kernel_rfl) (fun _ _ _ h => h) (by rfl) hS (fun w2 hw2 => ?ry21) ?rr21
              case ry21 => ((try dsimp only at hw2); go_simp <;> with_reducible rfl)
              simp only [Act.put, List.setIfInBounds_toArray, List.set_cons_zero, List.set_cons_succ]
              refine rg_take 11 (v := ?rv22) rfl (by kernel_rfl) (by kernel_rfl) (by kernel_rfl) (fun _ _ _ h => h) (by rfl) hS (fun w2 hw2 => ?ry22) ?rr22
              case ry22 => ((try dsimp only at hw2); go_simp <;> with_reducible rfl)
              simp only [Act.put, List.setIfInBounds_toArray, List.set_cons_zero, List.set_cons_succ]
              refine rg_take 14 (v := ?rv23) rfl (by kernel_rfl) (by kernel_rfl) (by kernel_rfl) (fun _ _ _ h => h) (by rfl) hS (fun w2 hw2 => ?ry23) ?rr23
              case ry23 => ((try dsimp only at hw2); go_simp <;> with_reducible rfl)
              simp only [Act.put, List.setIfInBounds_toArray, List.set_cons_zero, List.set_cons_succ]
              refine rg_take 18 (v := ?rv24) rfl (by kernel_rfl) (by kernel_rfl) (by kernel_rfl) (fun _ _ _ h => h) (by rfl) hS (fun w2 hw2 => ?ry24) ?rr24
              case ry24 => ((try dsimp only at hw2); go_simp <;> with_reducible rfl)
              simp only [Act.put, List.setIfInBounds_toArray, List.set_cons_zero, List.set_cons_succ]
              refine rg_take 21 (v := ?rv25) rfl (by kernel_rfl) (by kernel_rfl) (by kernel_rfl) (fun _ _ _ h => h) (by rfl) hS (fun w2 hw2 => ?ry25) ?rr25
              case ry25 => ((try dsimp only at hw2); go_simp <;> with_reducible rfl)
              simp only [Act.put, List.setIfInBounds_toArray, List.set_cons_zero, List.set_cons_succ]
              refine rg_take 5 (v := ?rv26) rfl (by kernel_rfl) (by kernel_rfl) (by kernel_rfl) (fun _ _ _ h => h) (by rfl) hS (fun w2 hw2 => ?ry26) ?rr26
              case ry26 => ((try dsimp only at hw2); go_simp <;> with_reducible rfl)
              simp only [Act.put, List.setIfInBounds_toArray, List.set_cons_zero, List.set_cons_succ]
              refine rg_take 6 (v := ?rv27) rfl (by kernel_rfl) (by kernel_rfl) (by kernel_rfl) (fun _ _ _ h => h) (by rfl) hS (fun w2 hw2 => ?ry27) ?rr27
              case ry27 => ((try dsimp only at hw2); go_simp <;> with_reducible rfl)
              simp only [Act.put, List.setIfInBounds_toArray, List.set_cons_zero, List.set_cons_succ]
              refine rg_take 7 (v := ?rv28) rfl (by kernel_rfl) (by kernel_rfl) (by kernel_rfl) (fun _ _ _ h => h) (by rfl) hS (fun w2 hw2 => ?ry28) ?rr28
              case ry28 => ((try dsimp only at hw2); go_simp <;> with_reducible rfl)
              simp only [Act.put, List.setIfInBounds_toArray, List.set_cons_zero, List.set_cons_succ]
              rw [HKQ.out]
              refine rg_take 8 (v := ?rv29) rfl (by kernel_rfl) (by kernel_rfl) (by kernel_rfl) (fun _ _ _ h => h) (by rfl) hS (fun w2 hw2 => ?ry29) ?rr29
              case ry29 => ((try dsimp only at hw2); go_simp <;> with_reducible rfl)
              simp only [Act.put, List.setIfInBounds_toArray, List.set_cons_zero, List.set_cons_succ]
              refine rg_take 9 (v := ?rv30) rfl (by kernel_rfl) (by kernel_rfl) (by kernel_rfl) (fun _ _ _ h => h) (by rfl) hS (fun w2 hw2 => ?ry30) ?rr30
              case ry30 => ((try dsimp only at hw2); go_simp <;> with_reducible rfl)
              simp only [Act.put, List.setIfInBounds_toArray, List.set_cons_zero, List.set_cons_succ]
              refine rg_any [12, 25] (by kernel_rfl) (by simp) ?_
              refine rg_or 12 rfl (by rfl) (fun K hK => ?_) ?_
              · go_simp
                refine (HP1.out _).mono ?_
                rintro e w0 ⟨rfl, hw0⟩
                obtain rfl := hw0
                refine hK.out _ _ hS ?_
                clear hK
                (try simp only [Act.put, List.setIfInBounds_toArray, List.set_cons_zero, List.set_cons_succ])
                refine rg_any [15, 25] (by kernel_rfl) (by simp) ?_
                refine rg_or 15 rfl (by rfl) (fun K hK => ?_) ?_
                · go_simp
                  refine (HP2.out _).mono ?_
                  rintro e w0 ⟨rfl, hw0⟩
                  obtain rfl := hw0
                  refine hK.out _ _ hS ?_
                  clear hK
                  (try simp only [Act.put, List.setIfInBounds_toArray, List.set_cons_zero, List.set_cons_succ])
                  refine rg_take 16 (v := ?rv31) rfl (by kernel_rfl) (by kernel_rfl) (by kernel_rfl) (fun _ _ _ h => h) (by rfl) hS (fun w2 hw2 => ?ry31) ?rr31
                  case ry31 => ((try dsimp only at hw2); go_simp <;> with_reducible rfl)
                  simp only [Act.put, List.setIfInBounds_toArray, List.set_cons_zero, List.set_cons_succ]
                  refine rg_any [19, 25] (by kernel_rfl) (by simp) ?_
                  refine rg_or 19 rfl (by rfl) (fun K hK => ?_) ?_
                  · go_simp
                    refine (HP1.out _).mono ?_
                    rintro e w0 ⟨rfl, hw0⟩
                    obtain rfl := hw0
                    refine hK.out _ _ hS ?_
                    clear hK
                    (try simp only [Act.put, List.setIfInBounds_toArray, List.set_cons_zero, List.set_cons_succ])
                    refine rg_any [22, 25] (by kernel_rfl) (by simp) ?_
                    refine rg_or 22 rfl (by rfl) (fun K hK => ?_) ?_
                    · go_simp
                      refine (HP2.out _).mono ?_
                      rintro e w0 ⟨rfl, hw0⟩
                      obtain rfl := hw0
                      refine hK.out _ _ hS ?_
                      clear hK
                      (try simp only [Act.put, List.setIfInBounds_toArray, List.set_cons_zero, List.set_cons_succ])
                      refine rg_take 23 (v := ?rv32) rfl (by kernel_rfl) (by kernel_rfl) (by kernel_rfl) (fun _ _ _ h => h) (by rfl) hS (fun w2 hw2 => ?ry32) ?rr32
                      case ry32 => ((try dsimp only at hw2); go_simp <;> with_reducible rfl)
                      simp only [Act.put, List.setIfInBounds_toArray, List.set_cons_zero, List.set_cons_succ]
                      rw [HLH.out.1, HLH.out.2]
                      refine rg_any [24, 25] (by kernel_rfl) (by simp) ?_
                      refine rg_or 24 rfl (by rfl) (fun K hK => ?_) ?_
                      · refine wp_build_rw4 (.tmp 62) (.tmp 70) (.tmp 77) (.tmp 84) rfl x.allow pz lo hi rfl rfl rfl rfl ?_
                        rw [HYY.out.1]
                        refine hK.out _ _ hS ?_
                        clear hK
                        (try simp only [Act.put, List.setIfInBounds_toArray, List.set_cons_zero, List.set_cons_succ])
                        refine rg_step 25 rfl (by kernel_rfl) (by rfl) (fun K hK => ?_)
                        refine wp_alloc_rw rfl fun u6 hB bK zB => ?_
                        obtain ⟨g9, hg9⟩ : ∃ g, w2.drew.heap.size = g := ⟨_, rfl⟩
                        have hG : w2.heap.size ≤ g9 := by rw [← hg9]; exact hS.size
                        rw [hg9] at hB ⊢
                        replace hS := hS.trans (bK.mono hS.size)
                        clear bK zB hg9
                        refine hK.out _ _ hS ?_
                        clear hK
                        (try simp only [Act.put, List.setIfInBounds_toArray, List.set_cons_zero, List.set_cons_succ])
                        refine rg_step 26 rfl (by kernel_rfl) (by rfl) (fun K hK => ?_)
                        refine wp_store_rw (.tmp 9) (.tmp 85) rfl Y rfl rfl HYY.out.2 hB fun u7 a3 o3 z3 b3 => ?_
                        replace hS := b3 w2.heap.size w2 hG hS
                        refine hK.out _ _ hS ?_
                        clear hK
                        (try simp only [Act.put])
                        refine rg_done (by kernel_rfl) ?_
                        go_wp2_with fail
                        go_meet
                        exact ⟨_, rfl, a3, hG, hS⟩
                      refine rg_or 25 rfl (by rfl) (fun K hK => ?_) ?_
                      · refine wp_alloc_rw rfl fun u8 hB bK zB => ?_
                        obtain ⟨g9, hg9⟩ : ∃ g, w2.drew.heap.size = g := ⟨_, rfl⟩
                        have hG : w2.heap.size ≤ g9 := by rw [← hg9]; exact hS.size
                        rw [hg9] at hB ⊢
                        replace hS := hS.trans (bK.mono hS.size)
                        clear bK zB hg9
                        refine hK.out _ _ hS ?_
                        clear hK
                        (try simp only [Act.put, List.setIfInBounds_toArray, List.set_cons_zero, List.set_cons_succ])
                        refine rg_step 24 rfl (by kernel_rfl) (by rfl) (fun K hK => ?_)
                        refine wp_build_rw4 (.tmp 62) (.tmp 70) (.tmp 77) (.tmp 84) rfl x.allow pz lo hi rfl rfl rfl rfl ?_
                        rw [HYY.out.1]
                        refine hK.out _ _ hS ?_
                        clear hK
                        (try simp only [Act.put, List.setIfInBounds_toArray, List.set_cons_zero, List.set_cons_succ])
                        refine rg_step 26 rfl (by kernel_rfl) (by rfl) (fun K hK => ?_)
                        refine wp_store_rw (.tmp 9) (.tmp 85) rfl Y rfl rfl HYY.out.2 hB fun u10 a3 o3 z3 b3 => ?_
                        replace hS := b3 w2.heap.size w2 hG hS
                        refine hK.out _ _ hS ?_
                        clear hK
                        (try simp only [Act.put])
                        refine rg_done (by kernel_rfl) ?_
                        go_wp2_with fail
                        go_meet
                        exact ⟨_, rfl, a3, hG, hS⟩
                      exact AllReadyH.nil
                    refine rg_or 25 rfl (by rfl) (fun K hK => ?_) ?_
                    · refine wp_alloc_rw rfl fun u11 hB bK zB => ?_
                      obtain ⟨g9, hg9⟩ : ∃ g, w2.drew.heap.size = g := ⟨_, rfl⟩
                      have hG : w2.heap.size ≤ g9 := by rw [← hg9]; exact hS.size
                      rw [hg9] at hB ⊢
                      replace hS := hS.trans (bK.mono hS.size)
                      clear bK zB hg9
                      refine hK.out _ _ hS ?_
                      clear hK
                      (try simp only [Act.put, List.setIfInBounds_toArray, List.set_cons_zero, List.set_cons_succ])
                      refine rg_step 22 rfl (by kernel_rfl) (by rfl) (fun K hK => ?_)
                      go_simp
                      refine (HP2.out _).mono ?_
                      rintro e w0 ⟨rfl, hw0⟩
                      obtain rfl := hw0
                      refine hK.out _ _ hS ?_
                      clear hK
                      (try simp only [Act.put, List.setIfInBounds_toArray, List.set_cons_zero, List.set_cons_succ])
                      refine rg_take 23 (v := ?rv33) rfl (by kernel_rfl) (by kernel_rfl) (by kernel_rfl) (fun _ _ _ h => h) (by rfl) hS (fun w2 hw2 => ?ry33) ?rr33
                      case ry33 => ((try dsimp only at hw2); go_simp <;> with_reducible rfl)
                      simp only [Act.put, List.setIfInBounds_toArray, List.set_cons_zero, List.set_cons_succ]
                      rw [HLH.out.1, HLH.out.2]
                      refine rg_step 24 rfl (by kernel_rfl) (by rfl) (fun K hK => ?_)
                      refine wp_build_rw4 (.tmp 62) (.tmp 70) (.tmp 77) (.tmp 84) rfl x.allow pz lo hi rfl rfl rfl rfl ?_
                      rw [HYY.out.1]
                      refine hK.out _ _ hS ?_
                      clear hK
                      (try simp only [Act.put, List.setIfInBounds_toArray, List.set_cons_zero, List.set_cons_succ])
                      refine rg_step 26 rfl (by kernel_rfl) (by rfl) (fun K hK => ?_)
                      refine wp_store_rw (.tmp 9) (.tmp 85) rfl Y rfl rfl HYY.out.2 hB fun u14 a3 o3 z3 b3 => ?_
                      replace hS := b3 w2.heap.size w2 hG hS
                      refine hK.out _ _ hS ?_
                      clear hK
                      (try simp only [Act.put])
                      refine rg_done (by kernel_rfl) ?_
                      go_wp2_with fail
                      go_meet
                      exact ⟨_, rfl, a3, hG, hS⟩
                    exact AllReadyH.nil
                  refine rg_or 25 rfl (by rfl) (fun K hK => ?_) ?_
                  · refine wp_alloc_rw rfl fun u15 hB bK zB => ?_
                    obtain ⟨g9, hg9⟩ : ∃ g, w2.drew.heap.size = g := ⟨_, rfl⟩
                    have hG : w2.heap.size ≤ g9 := by rw [← hg9]; exact hS.size
                    rw [hg9] at hB ⊢
                    replace hS := hS.trans (bK.mono hS.size)
                    clear bK zB hg9
                    refine hK.out _ _ hS ?_
                    clear hK
                    (try simp only [Act.put, List.setIfInBounds_toArray, List.set_cons_zero, List.set_cons_succ])
                    refine rg_step 19 rfl (by kernel_rfl) (by rfl) (fun K hK => ?_)
                    go_simp
                    refine (HP1.out _).mono ?_
                    rintro e w0 ⟨rfl, hw0⟩
                    obtain rfl := hw0
                    refine hK.out _ _ hS ?_
                    clear hK
                    (try simp only [Act.put, List.setIfInBounds_toArray, List.set_cons_zero, List.set_cons_succ])
                    refine rg_step 22 rfl (by kernel_rfl) (by rfl) (fun K hK => ?_)
                    go_simp
                    refine (HP2.out _).mono ?_
                    rintro e w0 ⟨rfl, hw0⟩
                    obtain rfl := hw0
                    refine hK.out _ _ hS ?_
                    clear hK
                    (try simp only [Act.put, List.setIfInBounds_toArray, List.set_cons_zero, List.set_cons_succ])
                    refine rg_take 23 (v := ?rv34) rfl (by kernel_rfl) (by kernel_rfl) (by kernel_rfl) (fun _ _ _ h => h) (by rfl) hS (fun w2 hw2 => ?ry34) ?rr34
                    case ry34 => ((try dsimp only at hw2); go_simp <;> with_reducible rfl)
                    simp only [Act.put, List.setIfInBounds_toArray, List.set_cons_zero, List.set_cons_succ]
                    rw [HLH.out.1, HLH.out.2]
                    refine rg_step 24 rfl (by kernel_rfl) (by rfl) (fun K hK => ?_)
                    refine wp_build_rw4 (.tmp 62) (.tmp 70) (.tmp 77) (.tmp 84) rfl x.allow pz lo hi rfl rfl rfl rfl ?_
                    rw [HYY.out.1]
                    refine hK.out _ _ hS ?_
                    clear hK
                    (try simp only [Act.put, List.setIfInBounds_toArray, List.set_cons_zero, List.set_cons_succ])
                    refine rg_step 26 rfl (by kernel_rfl) (by rfl) (fun K hK => ?_)
                    refine wp_store_rw (.tmp 9) (.tmp 85) rfl Y rfl rfl HYY.out.2 hB fun u19 a3 o3 z3 b3 => ?_
                    replace hS := b3 w2.heap.size w2 hG hS
                    refine hK.out _ _ hS ?_
                    clear hK
                    (try simp only [Act.put])
                    refine rg_done (by kernel_rfl) ?_
                    go_wp2_with fail
                    go_meet
                    exact ⟨_, rfl, a3, hG, hS⟩
                  exact AllReadyH.nil
                refine rg_or 25 rfl (by rfl) (fun K hK => ?_) ?_
                · refine wp_alloc_rw rfl fun u20 hB bK zB => ?_
                  obtain ⟨g9, hg9⟩ : ∃ g, w2.drew.heap.size = g := ⟨_, rfl⟩
                  have hG : w2.heap.size ≤ g9 := by rw [← hg9]; exact hS.size
                  rw [hg9] at hB ⊢
                  replace hS := hS.trans (bK.mono hS.size)
                  clear bK zB hg9
                  refine hK.out _ _ hS ?_
                  clear hK
                  (try simp only [Act.put, List.setIfInBounds_toArray, List.set_cons_zero, List.set_cons_succ])
                  refine rg_step 15 rfl (by kernel_rfl) (by rfl) (fun K hK => ?_)
                  go_simp
                  refine (HP2.out _).mono ?_
                  rintro e w0 ⟨rfl, hw0⟩
                  obtain rfl := hw0
                  refine hK.out _ _ hS ?_
                  clear hK
                  (try simp only [Act.put, List.setIfInBounds_toArray, List.set_cons_zero, List.set_cons_succ])
                  refine rg_take 16 (v := ?rv35) rfl (by kernel_rfl) (by kernel_rfl) (by kernel_rfl) (fun _ _ _ h => h) (by rfl) hS (fun w2 hw2 => ?ry35) ?rr35
                  case ry35 => ((try dsimp only at hw2); go_simp <;> with_reducible rfl)
                  simp only [Act.put, List.setIfInBounds_toArray, List.set_cons_zero, List.set_cons_succ]
                  refine rg_step 19 rfl (by kernel_rfl) (by rfl) (fun K hK => ?_)
                  go_simp
                  refine (HP1.out _).mono ?_
                  rintro e w0 ⟨rfl, hw0⟩
                  obtain rfl := hw0
                  refine hK.out _ _ hS ?_
                  clear hK
                  (try simp only [Act.put, List.setIfInBounds_toArray, List.set_cons_zero, List.set_cons_succ])
                  refine rg_step 22 rfl (by kernel_rfl) (by rfl) (fun K hK => ?_)
                  go_simp
                  refine (HP2.out _).mono ?_
                  rintro e w0 ⟨rfl, hw0⟩
                  obtain rfl := hw0
                  refine hK.out _ _ hS ?_
                  clear hK
                  (try simp only [Act.put, List.setIfInBounds_toArray, List.set_cons_zero, List.set_cons_succ])
                  refine rg_take 23 (v := ?rv36) rfl (by kernel_rfl) (by kernel_rfl) (by kernel_rfl) (fun _ _ _ h => h) (by rfl) hS (fun w2 hw2 => ?ry36) ?rr36
                  case ry36 => ((try dsimp only at hw2); go_simp <;> with_reducible rfl)
                  simp only [Act.put, List.setIfInBounds_toArray, List.set_cons_zero, List.set_cons_succ]
                  rw [HLH.out.1, HLH.out.2]
                  refine rg_step 24 rfl (by kernel_rfl) (by rfl) (fun K hK => ?_)
                  refine wp_build_rw4 (.tmp 62) (.tmp 70) (.tmp 77) (.tmp 84) rfl x.allow pz lo hi rfl rfl rfl rfl ?_
                  rw [HYY.out.1]
                  refine hK.out _ _ hS ?_
                  clear hK
                  (try simp only [Act.put, List.setIfInBounds_toArray, List.set_cons_zero, List.set_cons_succ])
                  refine rg_step 26 rfl (by kernel_rfl) (by rfl) (fun K hK => ?_)
                  refine wp_store_rw (.tmp 9) (.tmp 85) rfl Y rfl rfl HYY.out.2 hB fun u25 a3 o3 z3 b3 => ?_
                  replace hS := b3 w2.heap.size w2 hG hS
                  refine hK.out _ _ hS ?_
                  clear hK
                  (try simp only [Act.put])
                  refine rg_done (by kernel_rfl) ?_
                  go_wp2_with fail
                  go_meet
                  exact ⟨_, rfl, a3, hG, hS⟩
                exact AllReadyH.nil
              refine rg_or 25 rfl (by rfl) (fun K hK => ?_) ?_
              · refine wp_alloc_rw rfl fun u26 hB bK zB => ?_
                obtain ⟨g9, hg9⟩ : ∃ g, w2.drew.heap.size = g := ⟨_, rfl⟩
                have hG : w2.heap.size ≤ g9 := by rw [← hg9]; exact hS.size
                rw [hg9] at hB ⊢
                replace hS := hS.trans (bK.mono hS.size)
                clear bK zB hg9
                refine hK.out _ _ hS ?_
                clear hK
                (try simp only [Act.put, List.setIfInBounds_toArray, List.set_cons_zero, List.set_cons_succ])
                refine rg_step 12 rfl (by kernel_rfl) (by rfl) (fun K hK => ?_)
                go_simp
                refine (HP1.out _).mono ?_
                rintro e w0 ⟨rfl, hw0⟩
                obtain rfl := hw0
                refine hK.out _ _ hS ?_
                clear hK
                (try simp only [Act.put, List.setIfInBounds_toArray, List.set_cons_zero, List.set_cons_succ])
                refine rg_step 15 rfl (by kernel_rfl) (by rfl) (fun K hK => ?_)
                go_simp
                refine (HP2.out _).mono ?_
                rintro e w0 ⟨rfl, hw0⟩
                obtain rfl := hw0
                refine hK.out _ _ hS ?_
                clear hK
                (try simp only [Act.put, List.setIfInBounds_toArray, List.set_cons_zero, List.set_cons_succ])
                refine rg_take 16 (v := ?rv37) rfl (by kernel_rfl) (by kernel_rfl) (by kernel_rfl) (fun _ _ _ h => h) (by rfl) hS (fun w2 hw2 => ?ry37) ?rr37
                case ry37 => ((try dsimp only at hw2); go_simp <;> with_reducible rfl)
                simp only [Act.put, List.setIfInBounds_toArray, List.set_cons_zero, List.set_cons_succ]
                refine rg_step 19 rfl (by kernel_rfl) (by rfl) (fun K hK => ?_)
                go_simp
                refine (HP1.out _).mono ?_
                rintro e w0 ⟨rfl, hw0⟩
                obtain rfl := hw0
                refine hK.out _ _ hS ?_
                clear hK
                (try simp only [Act.put, List.setIfInBounds_toArray, List.set_cons_zero, List.set_cons_succ])
                refine rg_step 22 rfl (by kernel_rfl) (by rfl) (fun K hK => ?_)
                go_simp
                refine (HP2.out _).mono ?_
                rintro e w0 ⟨rfl, hw0⟩
                obtain rfl := hw0
                refine hK.out _ _ hS ?_
                clear hK
                (try simp only [Act.put, List.setIfInBounds_toArray, List.set_cons_zero, List.set_cons_succ])
                refine rg_take 23 (v := ?rv38) rfl (by kernel_rfl) (by kernel_rfl) (by kernel_rfl) (fun _ _ _ h => h) (by rfl) hS (fun w2 hw2 => ?ry38) ?rr38
                case ry38 => ((try dsimp only at hw2); go_simp <;> with_reducible rfl)
                simp only [Act.put, List.setIfInBounds_toArray, List.set_cons_zero, List.set_cons_succ]
                rw [HLH.out.1, HLH.out.2]
                refine rg_step 24 rfl (by kernel_rfl) (by rfl) (fun K hK => ?_)
                refine wp_build_rw4 (.tmp 62) (.tmp 70) (.tmp 77) (.tmp 84) rfl x.allow pz lo hi rfl rfl rfl rfl ?_
                rw [HYY.out.1]
                refine hK.out _ _ hS ?_
                clear hK
                (try simp only [Act.put, List.setIfInBounds_toArray, List.set_cons_zero, List.set_cons_succ])
                refine rg_step 26 rfl (by kernel_rfl) (by rfl) (fun K hK => ?_)
                refine wp_store_rw (.tmp 9) (.tmp 85) rfl Y rfl rfl HYY.out.2 hB fun u32 a3 o3 z3 b3 => ?_
                replace hS := b3 w2.heap.size w2 hG hS
                refine hK.out _ _ hS ?_
                clear hK
                (try simp only [Act.put])
                refine rg_done (by kernel_rfl) ?_
                go_wp2_with fail
                go_meet
                exact ⟨_, rfl, a3, hG, hS⟩
              exact AllReadyH.nil
            case rest =>
              obtain ⟨g9, rfl, hY9, hG9, hS9⟩ := hcut
              have hBw : Below wr.heap.size wr wc := H2.out.2.trans (hS9.mono H2.out.2.size)
              have hx8 := H2.out.1.later hS9 (Nat.le_refl _)
              have hlt8 : wr.heap.size < g9 := Nat.lt_of_lt_of_le H2.out.1.lt hG9
              have hnY : Y.name.length ≤ 60 := by rw [← HYY.out.1]; exact Nat.zero_le _
              have HX8 := Lib.hid (And.intro hx8 (And.intro hlt8 (And.intro hBw hnY)))
              have HY9 := Lib.hid hY9
              obtain ⟨d0, d1, d2, d21, d22, d23, dn⟩ := hx8.cells
              have HDN := Lib.hid dn
              clear rx0 rx21 rx22 rx23 rpl hY9 hG9 hS9 hBw hx8 hlt8 hnY d0 d21 d22 d23 dn i4 i5
              obtain ⟨E, hE⟩ : ∃ E, (mkS x.name).toList.isEmpty = E := ⟨_, rfl⟩
              go_upto_if 88 with fail
              go_cut [9] (fun p wx => p = .pointer (some ⟨g9, 0, none⟩) ∧ ∃ Z, RwBox wx g9 Z ∧ Z.name.length ≤ 60 ∧ Below wr.heap.size wr wx)
              case first =>
                cases E with
                | true =>
                  clear hE d2
                  go_wp2_with (first
                    | (refine wpList_load_px' rfl (.tmp 96) rfl rfl HV.out.2.1 HDN.out ?_)
                    | (go_at_call 22; refine (play_net x.v6 x.adr HV.out.2.1 x.bits _).mono ?_; rintro e w6 ⟨mm, hmm, rfl, b6⟩; have H6 := Lib.hid (And.intro ((HY9.out.later b6 (Nat.le_refl _))) (HX8.out.2.2.1.trans (b6.mono HX8.out.2.2.1.size))); clear b6)
                    | (refine wpList_store_net rfl (.tmp 99) (.tmp 98) rfl rfl rfl (by rw [firstv_len]; exact HV.out.2.1) H6.out.1 ?_; intro w7 a7 o7 z7 b7; have H7 := Lib.hid (And.intro a7 (b7 wr.heap.size wr (by have := HX8.out.2.1; omega) H6.out.2)); clear a7 o7 z7 b7))
                  go_meet
                  exact ⟨rfl, _, H7.out.1, HX8.out.2.2.2, H7.out.2⟩
                | false =>
                  clear hE
                  have KN := playName_any (mkS x.name) (by rw [mkS_size]; exact HV.out.2.2)
                  rw [mkS_data] at KN
                  have hpn := (playN_right x.name).2
                  obtain ⟨pn, hpn0⟩ : ∃ pn, playN x.name = pn := ⟨_, rfl⟩
                  rw [hpn0] at KN hpn
                  have HKN := Lib.hid KN
                  have HPN := Lib.hid hpn
                  have lt8 := Lib.hid HX8.out.1.lt
                  have re1 : ∀ w' : World, w'.heap[wr.heap.size]? = wc.heap[wr.heap.size]? → w'.cell? ⟨wr.heap.size, 1, none⟩ = some (.string (mkS x.name)) := fun w' h => (World.cell?_of_block (w := wc) h).trans d1
                  have re2 : ∀ w' : World, w'.heap[wr.heap.size]? = wc.heap[wr.heap.size]? → w'.cell? ⟨wr.heap.size, 2, none⟩ = some (.bool x.wild) := fun w' h => (World.cell?_of_block (w := wc) h).trans d2
                  clear hpn hpn0 KN d1 d2
                  go_wp2_with fail
                  have hS : wc.drew.heap[wr.heap.size]? = wc.heap[wr.heap.size]? := rfl
                  refine rg_begin (fun w' : World => w'.heap[wr.heap.size]? = wc.heap[wr.heap.size]?) 9 (by kernel_rfl) rfl ?_
                  refine rg_take 0 (v := ?rv39) rfl (by kernel_rfl) (by kernel_rfl) (by kernel_rfl) (fun _ _ _ h => h) (by rfl) hS (fun w2 hw2 => ?ry39) ?rr39
                  case ry39 => ((try dsimp only at hw2); go_simp <;> with_reducible rfl)
                  simp only [Act.put, List.setIfInBounds_toArray, List.set_cons_zero, List.set_cons_succ]
                  refine rg_take 3 (v := ?rv40) rfl (by kernel_rfl) (by kernel_rfl) (by kernel_rfl) (fun _ _ _ h => h) (by rfl) hS (fun w2 hw2 => ?ry40) ?rr40
                  case ry40 => ((try dsimp only at hw2); go_simp <;> with_reducible rfl)
                  simp only [Act.put, List.setIfInBounds_toArray, List.set_cons_zero, List.set_cons_succ]
                  refine rg_take 1 (v := ?rv41) rfl (by kernel_rfl) (by kernel_rfl) (by kernel_rfl) (fun _ _ _ h => h) (by rfl) hS (fun w2 hw2 => ?ry41) ?rr41
                  case ry41 => ((try dsimp only at hw2); go_simp <;> with_reducible rfl)
                  simp only [Act.put, List.setIfInBounds_toArray, List.set_cons_zero, List.set_cons_succ]
                  refine rg_take 4 (v := ?rv42) rfl (by kernel_rfl) (by kernel_rfl) (by kernel_rfl) (fun _ _ _ h => h) (by rfl) hS (fun w2 hw2 => ?ry42) ?rr42
                  case ry42 => ((try dsimp only at hw2); go_simp <;> with_reducible rfl)
                  simp only [Act.put, List.setIfInBounds_toArray, List.set_cons_zero, List.set_cons_succ]
                  refine rg_step 2 rfl (by kernel_rfl) (by rfl) (fun K hK => ?_)
                  go_simp
                  refine (HKN.out _).mono ?_
                  rintro e w6 ⟨rfl, b60⟩
                  have b6 : Below wc.heap.size wc w6 := ((Below.refl wc.heap.size wc).drew).trans b60
                  clear b60
                  have h9 := HY9.out.later (w' := w6) (B := wc.heap.size) b6 (Nat.le_refl _)
                  have hb9 := HX8.out.2.2.1.trans (Below.mono b6 HX8.out.2.2.1.size)
                  replace hS : w6.heap[wr.heap.size]? = wc.heap[wr.heap.size]? := b6.block _ lt8.out
                  clear b6
                  refine hK.out _ _ hS ?_
                  clear hK K
                  try simp only [Act.put, List.setIfInBounds_toArray, List.set_cons_zero, List.set_cons_succ]
                  refine rg_take 5 (v := ?rv43) rfl (by kernel_rfl) (by kernel_rfl) (by kernel_rfl) (fun _ _ _ h => h) (by rfl) hS (fun w2 hw2 => ?ry43) ?rr43
                  case ry43 => ((try dsimp only at hw2); go_simp <;> with_reducible rfl)
                  simp only [Act.put, List.setIfInBounds_toArray, List.set_cons_zero, List.set_cons_succ]
                  have f1 := h9.cells.2.1
                  have f2 := h9.frozen 1
                  refine rg_step 6 rfl (by kernel_rfl) (by rfl) (fun K hK => ?_)
                  go_simp
                  clear f1 f2
                  have h9b := h9.put1 pn
                  have hb9b : Below wr.heap.size wr (w6.setCell ⟨g9, 1, none⟩ (.string (mkS pn))) := hb9.setCell (p := ⟨g9, 1, none⟩) (Nat.le_of_lt HX8.out.2.1) _
                  replace hS : (w6.setCell ⟨g9, 1, none⟩ (.string (mkS pn))).heap[wr.heap.size]? = wc.heap[wr.heap.size]? := (Below.heap_setCell _ _ _ _ (Nat.ne_of_lt HX8.out.2.1)).trans hS
                  obtain ⟨w7, hw7⟩ : ∃ w7, w6.setCell ⟨g9, 1, none⟩ (.string (mkS pn)) = w7 := ⟨_, rfl⟩
                  rw [hw7] at h9b hb9b hS ⊢
                  clear hw7 h9 hb9
                  refine hK.out _ _ hS ?_
                  clear hK K
                  (try simp only [Act.put])
                  refine rg_take 7 (v := ?rv44) rfl (by kernel_rfl) (by kernel_rfl) (by kernel_rfl) (fun _ _ _ h => h) (by rfl) hS (fun w2 hw2 => ?ry44) ?rr44
                  case ry44 => ((try dsimp only at hw2); go_simp <;> with_reducible rfl)
                  simp only [Act.put, List.setIfInBounds_toArray, List.set_cons_zero, List.set_cons_succ]
                  have f1 := h9b.cells.2.2.1
                  have f2 := h9b.frozen 2
                  refine rg_step 8 rfl (by kernel_rfl) (by rfl) (fun K hK => ?_)
                  go_simp
                  clear f1 f2
                  have h9c := h9b.put2 x.wild
                  have hb9c : Below wr.heap.size wr (w7.setCell ⟨g9, 2, none⟩ (.bool x.wild)) := hb9b.setCell (p := ⟨g9, 2, none⟩) (Nat.le_of_lt HX8.out.2.1) _
                  replace hS : (w7.setCell ⟨g9, 2, none⟩ (.bool x.wild)).heap[wr.heap.size]? = wc.heap[wr.heap.size]? := (Below.heap_setCell _ _ _ _ (Nat.ne_of_lt HX8.out.2.1)).trans hS
                  refine hK.out _ _ hS ?_
                  clear hK K
                  (try simp only [Act.put])
                  refine rg_done (by kernel_rfl) ?_
                  go_wp2_with fail
                  go_meet
                  exact ⟨rfl, _, h9c, HPN.out, hb9c⟩
              case rest =>
                obtain ⟨rfl, Z, hZ, hzn, hbz⟩ := hcut
                have HZ9 := Lib.hid (And.intro hZ (And.intro hzn hbz))
                clear hZ hzn hbz d1 d2 hE
                go_wp2_with (first
                  | (refine wpList_load_rw rfl (.tmp 9) rfl rfl HZ9.out.1.2 HZ9.out.1.range ?_)
                  | (refine wpList_lit_rw rfl (.tmp 100) rfl Z HZ9.out.1.2 rfl ?_; obtain ⟨w8, hw8⟩ : ∃ w8, wc.alloc (.cells (rwv Z) 55) = w8 := ⟨_, rfl⟩; rw [hw8]; have H8 := Lib.hid (And.intro (show w8.heap[wc.heap.size]? = some (.cells (rwv Z) 55 (0, 0)) by rw [← hw8]; exact World.alloc_heap_new wc _) (show Below wc.heap.size wc w8 by rw [← hw8]; exact (Below.refl _ _).alloc (Nat.le_refl _) _)); clear hw8)
                  | (refine wpList_plain rfl fun _ hK => wp_build_rs2 (.tmp 101) rfl (some ⟨wc.heap.size, 0, none⟩) 1 1 rfl (hK _ _ ?_); clear hK))
                have hlit : RwS w8 (some ⟨wc.heap.size, 0, none⟩) 1 1 [Z] := ⟨rfl, Nat.le_refl _, by unfold maxLen; omega, (fun h => by cases h), (fun r hr => by rw [List.mem_singleton.1 hr]; exact HZ9.out.1.2), fun i t ht => ⟨wc.heap.size, 0, rfl, by
                  match i, ht with
                  | 0, ht => obtain rfl := Option.some.inj ht; exact range_blk19 H8.out.1
                  | i + 1, ht => simp at ht⟩⟩
                refine (rightRules19 (A9S.nil w8) hlit (fun r hr => by rw [List.mem_singleton.1 hr]; have := HZ9.out.2.1; omega)).mono ?_
                rintro e w9 ⟨⟨q, rfl, hq⟩, b9⟩
                have hbc9 : Below wc.heap.size wc w9 := H8.out.2.trans (b9.mono H8.out.2.size)
                have hb9 : Below wr.heap.size wr w9 := HZ9.out.2.2.trans (hbc9.mono HZ9.out.2.2.size)
                have hZ9 := HZ9.out.1.later hbc9 (Nat.le_refl _)
                have H9 := Lib.hid (And.intro hq (And.intro hb9 (And.intro hZ9 (HI.out.1.later hb9))))
                have hwr3 : s + 3 ≤ wr.heap.size := by have := HI.out.1.lt; have := lt_blk HI.out.2.2.2.2.2.2.2.2.2.1; have := HI.out.2.2.2.2.2.2.2.2.1; omega
                have h09 : RsBox w9 s va vb := (hb9.block _ (lt_blk HI.out.2.2.2.2.2.1)).trans HI.out.2.2.2.2.2.1
                have h19 : RsBox w9 (s + 1) (.slice none 0 0) (.slice none 0 0) := (hb9.block _ (lt_blk HI.out.2.2.2.2.2.2.1)).trans HI.out.2.2.2.2.2.2.1
                have hw9 : Below s w w9 := HI.out.2.2.2.2.2.2.2.1.trans (hb9.mono (by omega))
                have hr9 := HI.out.2.2.2.2.2.2.2.2.2.1.later hb9 (Nat.le_refl _)
                have HF := Lib.hid (And.intro h09 (And.intro h19 (And.intro hw9 (And.intro hr9 hwr3))))
                clear hq b9 hbc9 hb9 hZ9 hlit h09 h19 hw9 hr9 hwr3
                cases q with
                | false =>
                  go_wp2_with fail
                  exact ⟨⟨j + 1, hjn, hj4, by go_num, v1, v2, xs, H9.out.2.2.2, HI.out.2.1, HI.out.2.2.1, Nat.le_succ_of_le HI.out.2.2.2.1, HI.out.2.2.2.2.1, HF.out.1, HF.out.2.1, HF.out.2.2.1, HI.out.2.2.2.2.2.2.2.2.1, HF.out.2.2.2.1, HI.out.2.2.2.2.2.2.2.2.2.2⟩, by simp [intOf]; omega⟩
                | true =>
                  have kc1 := H9.out.2.2.2.cell1
                  obtain ⟨y0, hy0, hone, hpat⟩ := oneD_rule ((H9.out.1 (by first | rfl | trivial)).2.2.2 Z (List.mem_singleton.2 rfl)) HZ9.out.1.2 HZ9.out.2.1
                  have HY0 := Lib.hid (And.intro hy0 (And.intro hone hpat))
                  clear hy0 hone hpat
                  go_wp2_with (first
                    | (refine wpList_load_rw rfl (.tmp 9) rfl rfl HZ9.out.1.2 H9.out.2.2.1.range ?_)
                    | (refine wpList_lit_rw rfl (.tmp 106) rfl Z HZ9.out.1.2 rfl ?_; obtain ⟨w10, hw10⟩ : ∃ w10, w9.alloc (.cells (rwv Z) 55) = w10 := ⟨_, rfl⟩; rw [hw10]; have H10 := Lib.hid (And.intro (show w10.heap[w9.heap.size]? = some (.cells (rwv Z) 55 (0, 0)) by rw [← hw10]; exact World.alloc_heap_new w9 _) (show Below w9.heap.size w9 w10 by rw [← hw10]; exact (Below.refl _ _).alloc (Nat.le_refl _) _)); clear hw10 kc1)
                    | (at_builtin; refine wpList_push_rw rfl (.tmp 105) (.tmp 107) rfl (s + 2) v2 (xs.rules.map rwR) rfl (H9.out.2.2.2.later H10.out.2).u rfl (range_blk19 H10.out.1) HZ9.out.1.2 (by rw [List.length_map]; have := HI.out.2.2.2.1; omega) (Nat.le_trans (by have := HF.out.2.2.2.2; omega) (Nat.le_trans H9.out.2.1.size H10.out.2.size)) ?_; intro v3 w11 o11 g11 at11; obtain ⟨A5, c5, rfl, _, _⟩ := RwS.of_own o11; obtain ⟨m5, hm5⟩ : ∃ m, (xs.rules.map rwR ++ [Z]).length = m := ⟨_, rfl⟩; rw [hm5] at o11 at11 ⊢; have H11 := Lib.hid (And.intro o11 (And.intro g11 at11)); have hgb := (g11.block (s + 2) ((H9.out.2.2.2.later H10.out.2).lt) (fun e => (H9.out.2.2.2.later H10.out.2).n2 e.symm)).trans (H9.out.2.2.2.later H10.out.2).box; have kc2 : w11.cell? ⟨s + 2, 1, none⟩ = some v2 := cell_of_row w11 (s + 2) 1 _ _ _ hgb; (have kc3 : w11.frozen? ⟨s + 2, 1, none⟩ = false := by simp [World.frozen?, hgb]); clear o11 g11 at11 hgb))
                  have hpush := (H9.out.2.2.2.later H10.out.2).push2 (a := y0) (by rw [HY0.out.1]; exact H11.out.1) H11.out.2.1 H11.out.2.2
                  have hfr := hpush.2
                  have hz10 : wr.heap.size ≤ w10.heap.size := Nat.le_trans H9.out.2.1.size H10.out.2.size
                  have hsg := HI.out.2.2.2.2.2.2.2.2.2.2
                  have hsb : ∀ i, Sg (s + 2) v1 v2 i → s + 2 ≤ i := fun i hi => H9.out.2.2.2.sg_base hi
                  have hwr3 := HF.out.2.2.2.2
                  have hlt := lt_blk HI.out.2.2.2.2.2.2.2.2.2.1
                  have f0 := (hfr.block s (by omega) (fun h => by have := hsb s h; omega)).trans ((H10.out.2.block s (lt_blk HF.out.1)).trans HF.out.1)
                  have f1 := (hfr.block (s + 1) (by omega) (fun h => by have := hsb (s + 1) h; omega)).trans ((H10.out.2.block (s + 1) (lt_blk HF.out.2.1)).trans HF.out.2.1)
                  have f2 := (hfr.block gp (by omega) (fun h => hsg gp h rfl)).trans ((H10.out.2.block gp (lt_blk HF.out.2.2.2.1)).trans HF.out.2.2.2.1)
                  have f3 : Below s w (w11.setCell ⟨s + 2, 1, none⟩ (.slice A5 m5 c5)) := Fr.below (HF.out.2.2.1.trans (H10.out.2.mono (by have := H9.out.2.1.size; omega))) hfr (fun i hi => by have := hsb i hi; omega) (by omega)
                  have hrt : RightR fx (⟨xs.servers, xs.rules ++ [y0]⟩ : Rs19) := ⟨HI.out.2.1.s20, HI.out.2.1.sra, HI.out.2.1.snd, by rw [List.length_append]; have := HI.out.2.2.2.1; simp; omega, fun y hy => by
                    rcases List.mem_append.1 hy with hy | hy
                    · exact HI.out.2.1.one y hy
                    · rw [List.mem_singleton.1 hy]; exact HY0.out.2.1⟩
                  refine ⟨⟨j + 1, hjn, hj4, by go_num, v1, _, ⟨xs.servers, xs.rules ++ [y0]⟩, hpush.1, hrt, HI.out.2.2.1, by rw [List.length_append]; have := HI.out.2.2.2.1; simp; omega, fun y hy => ?_, f0, f1, f3, HI.out.2.2.2.2.2.2.2.2.1, f2, fun i hi => ?_⟩, by simp [intOf]; omega⟩
                  · rcases List.mem_append.1 hy with hy | hy
                    · exact HI.out.2.2.2.2.1 y hy
                    · rw [List.mem_singleton.1 hy]; exact HY0.out.2.2
                  · rcases hi with rfl | hi | hi
                    · exact hsg _ (.inl rfl)
                    · exact hsg _ (.inr (.inl hi))
                    · rcases H11.out.2.2 with e | e
                      · exact hsg _ (.inr (.inr (e.symm.trans hi)))
                      · rw [e] at hi
                        obtain rfl := Option.some.inj hi
                        omega
        | false =>
            clear hB
            obtain ⟨v1, v2, xs, irb, irt, is5, irl, ipl, i0, i1, iw, igp, irw, isg⟩ := HI0.out
            have hcost : cost xs ≤ 1300 := by
              have h : ∀ l : List Ru19, (∀ y ∈ l, patLen y ≤ 62) → (l.map patLen).sum ≤ 62 * l.length := fun l => by
                induction l with
                | nil => intro _; exact Nat.le_refl _
                | cons a l ih =>
                  intro h
                  have h1 := ih fun y hy => h y (List.mem_cons_of_mem _ hy)
                  have h2 := h a (List.mem_cons_self ..)
                  rw [List.map_cons, List.sum_cons, List.length_cons]
                  omega
              have h2 := h xs.rules ipl
              unfold cost
              omega
            have hb2 : RsBox wr (s + 2) v1 v2 := irb.box
            have HI := Lib.hid (And.intro irb (And.intro irt (And.intro is5 (And.intro irl (And.intro hcost (And.intro i1 (And.intro iw hb2)))))))
            clear irb irt is5 irl ipl i0 i1 iw igp irw isg hcost hb2 HI0 k1
            go_wp2_with (first
              | (refine wpList_load_rs rfl (.tmp 3) rfl rfl HI.out.2.2.2.2.2.2.2 ?_)
              | (refine wpList_store_rs rfl (.tmp 2) (.tmp 110) rfl v1 v2 HI.out.1.s.one HI.out.1.u.one rfl rfl HI.out.2.2.2.2.2.1 ?_; intro w3 a3 o3 z3 b3; have H3 := Lib.hid (And.intro a3 (And.intro o3 (b3 s w (by omega) HI.out.2.2.2.2.2.2.1))); clear a3 o3 z3 b3))
            refine bodyPost_ret (v := .agg (rsv v1 v2)) (results_cell_row rfl _ _ (s + 1) 25 _ (0, 0) _ rfl H3.out.1 Tryz.underlying25 rfl (rs_size v1 v2)) rfl ⟨v1, v2, xs, rfl, ?_⟩
            subst hs
            have q1 : ∀ b, v1.ownBlock = some b → b ≠ w.heap.size + 1 := fun b hb => by have := (HI.out.1.s.lt hb).1; omega
            have q2 : ∀ b, v2.ownBlock = some b → b ≠ w.heap.size + 1 := fun b hb => by have := (HI.out.1.u.lt hb).1; omega
            exact ⟨(HI.out.1.s.kept fun b hb => H3.out.2.1 b (q1 b hb)).base (by omega), (HI.out.1.u.kept fun b hb => H3.out.2.1 b (q2 b hb)).base (by omega), HI.out.2.1, HI.out.2.2.1, Nat.le_trans HI.out.2.2.2.1 hj20, HI.out.2.2.2.2.1, H3.out.2.2, HI.out.1.n12⟩
end Go.Proofs.YtoagfmonfgagbaaGreatDoor
