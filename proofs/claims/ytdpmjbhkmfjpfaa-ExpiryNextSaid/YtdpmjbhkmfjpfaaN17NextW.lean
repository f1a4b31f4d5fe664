/-
  ExpiryNext: what is next is what is due first, again and again. Conditions: those of the slice.
-/
import Derived.Test.YtdpmjbhkmfjpfaaTw17
import Derived.IntWalk
namespace Go.Proofs.Ytdpmjbhkmfjpfaa
open Go.RowKit
set_option maxRecDepth 100000

/-- Two queues of the call's own. -/
def St (w0 w : World) (g1 g2 : Nat) (L1 L2 : List En) : Prop := ∃ ob1 ob2, QL w g1 ob1 100 L1 ∧ QL w g2 ob2 100 L2 ∧ Dis g1 ob1 g2 ob2 ∧ Lo w0.heap.size g1 ob1 ∧ Lo w0.heap.size g2 ob2 ∧ Below w0.heap.size w0 w
theorem St.symm {w0 w : World} {g1 g2 : Nat} {L1 L2 : List En} (h : St w0 w g1 g2 L1 L2) : St w0 w g2 g1 L2 L1 := by
  obtain ⟨ob1, ob2, h1, h2, h3, h4, h5, h6⟩ := h
  exact ⟨ob2, ob1, h2, h1, h3.symm, h5, h4, h6⟩
theorem St.later {w0 w w' : World} {g1 g2 : Nat} {L1 L2 : List En} (h : St w0 w g1 g2 L1 L2) (hb : Below w.heap.size w w') : St w0 w' g1 g2 L1 L2 := by
  obtain ⟨ob1, ob2, h1, h2, h3, h4, h5, h6⟩ := h
  exact ⟨ob1, ob2, h1.later hb (Nat.le_refl _), h2.later hb (Nat.le_refl _), h3, h4, h5, h6.trans (hb.mono h6.size)⟩
theorem St.push1 {w0 w : World} {g1 g2 : Nat} {L1 L2 : List En} (h : St w0 w g1 g2 L1 L2) (hbig : L1.length ≤ 100000) {id t : Int} (hp : pushE 100 L1 id = 0) :
    Calls Try.prog 7 #[.pointer (some ⟨g1, 0, none⟩), .int .i64 id, .int .u64 t] w fun e w' => e = .returned .nilIface ∧ St w0 w' g1 g2 (pushL 100 L1 id t) L2 := by
  obtain ⟨ob1, ob2, h1, h2, h3, h4, h5, h6⟩ := h
  refine (push_L h1 hbig id t).mono fun _ w' ⟨e1, ob', e2, e3, e4⟩ => ⟨by rw [e1, hp]; rfl, ob', ob2, e2, h2.other e3 h3, h3.fresh e4 h2.lt (fun b hb => h2.lto hb), h4.fresh e4 h6.size, h5, e3.lo h6 h4 h6.size⟩
theorem St.push2 {w0 w : World} {g1 g2 : Nat} {L1 L2 : List En} (h : St w0 w g1 g2 L1 L2) (hbig : L2.length ≤ 100000) {id t : Int} (hp : pushE 100 L2 id = 0) :
    Calls Try.prog 7 #[.pointer (some ⟨g2, 0, none⟩), .int .i64 id, .int .u64 t] w fun e w' => e = .returned .nilIface ∧ St w0 w' g1 g2 L1 (pushL 100 L2 id t) :=
  (h.symm.push1 hbig hp).mono fun _ _ ⟨e1, e2⟩ => ⟨e1, e2.symm⟩
/-- A queue, and a row, of the call's own. -/
def St1 (w0 w : World) (g : Nat) (R : List En) (v : Value) (D : List En) : Prop := ∃ ob, QL w g ob 100 R ∧ Lo w0.heap.size g ob ∧ Below w0.heap.size w0 w ∧ EO w v D ∧ v.ownBlock ≠ some g ∧ ∀ b, v.ownBlock = some b → ob ≠ some b
theorem St1.later {w0 w w' : World} {g : Nat} {R D : List En} {v : Value} (h : St1 w0 w g R v D) (hb : Below w.heap.size w w') : St1 w0 w' g R v D := by
  obtain ⟨ob, h1, h2, h3, h4, h5, h6⟩ := h
  exact ⟨ob, h1.later hb (Nat.le_refl _), h2, h3.trans (hb.mono h3.size), h4.kept fun b hb2 => hb.block b (h4.lt hb2), h5, h6⟩
theorem St.due2 {w0 w : World} {g1 g2 : Nat} {L1 L2 : List En} (h : St w0 w g1 g2 L1 L2) (hbig : L2.length ≤ 100000) (now : Int) :
    Calls Try.prog 8 #[.pointer (some ⟨g2, 0, none⟩), .int .u64 now] w fun e w' => ∃ v, e = .returned v ∧ St1 w0 w' g1 L1 v (dueL now L2).1 := by
  obtain ⟨ob1, ob2, h1, h2, h3, h4, h5, h6⟩ := h
  refine (due_L h2 (by omega) now).mono fun _ w' ⟨v, e1, e2, e3, e4, e5⟩ => ⟨v, e1, ob1, h1.other e5 h3.symm, h4, e5.lo h6 h5 h6.size, e3, ?_, ?_⟩
  · rcases e4 with e | ⟨b, e, hb⟩
    · rw [e]; simp
    · rw [e]
      intro e2
      have := Option.some.inj e2
      have := h1.lt
      omega
  · intro b hb e2
    rcases e4 with e | ⟨b', e, hb'⟩
    · rw [e] at hb; cases hb
    · rw [e] at hb
      cases hb
      have := h1.lto e2
      omega
theorem St1.cancel {w0 w : World} {g : Nat} {R D : List En} {v : Value} (h : St1 w0 w g R v D) (id : Int) (hh : hasV R id = true) :
    Calls Try.prog 12 #[.pointer (some ⟨g, 0, none⟩), .int .i64 id] w fun e w' => e = .returned .nilIface ∧ St1 w0 w' g (cancelE R id) v D ∧ ∃ ob, QL w g ob 100 R ∧ Mv g ob w w' ∧ ∀ b, v.ownBlock = some b → ob ≠ some b := by
  obtain ⟨ob, h1, h2, h3, h4, h5, h6⟩ := h
  refine (cancel_L h1 id).mono fun _ w' ⟨e1, e2, e3⟩ => ⟨by rw [e1]; unfold hasC; rw [hh]; rfl, ⟨ob, e2, h2, e3.lo h3 h2 h3.size, h4.other e3 h5 h6, h5, h6⟩, ob, h1, e3, h6⟩
--<< walk
set_option maxHeartbeats 4000000 in
theorem expiryNext {A : Option Addr} {n c : Nat} {l : List Int} {w : World} (hu : Us w A n c l) : Calls Try.prog 4 #[.slice A n c] w fun e w' => e = .returned (.bool true) ∧ Below w.heap.size w w' := by
  have hcap := hu.cap
  have hmax := hu.max
  unfold maxLen at hmax
  have eh : heldV 100 = 100 := by decide
  have K1 := Lib.hid (new_L 100 w)
  have K2 := Lib.hid fun w1 => new_L 100 w1
  rw [eh] at K1
  have K2 := Lib.hid fun w1 => eh ▸ K2.out w1
  have K3 := Lib.hid fun w1 => awake17 w1
  have HU := Lib.hid hu
  clear hu eh
  go_enter Try.func4, Try.ntmps4
  go_wp2_with fail
  refine K1.out.mono ?_
  rintro e w1 ⟨rfl, h1, b1⟩
  have H1 := Lib.hid (And.intro h1 b1)
  clear h1 b1
  go_wp2_with fail
  refine (K2.out w1).mono ?_
  rintro e w2 ⟨rfl, h2, b2⟩
  have hSt : St w w2 w.heap.size w1.heap.size [] [] := ⟨none, none, H1.out.1.later b2 (Nat.le_refl _), h2, ⟨Nat.ne_of_lt H1.out.1.lt, by simp, by simp, fun b hb => by cases hb⟩, ⟨Nat.le_refl _, fun b hb => by cases hb⟩, ⟨H1.out.2.size, fun b hb => by cases hb⟩, H1.out.2.trans (b2.mono H1.out.2.size)⟩
  obtain ⟨g1, hg1⟩ : ∃ g, g = w.heap.size := ⟨_, rfl⟩
  obtain ⟨g2, hg2⟩ : ∃ g, g = w1.heap.size := ⟨_, rfl⟩
  rw [← hg1, ← hg2] at hSt ⊢
  have HS := Lib.hid hSt
  clear hSt h2 b2 K1 K2 H1 hg1 hg2
  go_wp2_with fail
  refine (K3.out w2).mono ?_
  rintro e w3 ⟨rfl, b3⟩
  have HS3 := Lib.hid (HS.out.later b3)
  clear b3 K3 HS
  go_wp2_with fail
  go_loopw [5] (fun i wr => ∃ k : Nat, k ≤ n ∧ k ≤ 80 ∧ i = .int .i64 k ∧ St w wr g1 g2 (ents l k) (ents l k)) (fun i _ => n - (intOf i).toNat)
  case atStart => exact ⟨0, Nat.zero_le _, Nat.zero_le _, rfl, HS3.out⟩
  case round =>
    obtain ⟨k, hk, hk80, rfl, hst⟩ := hrel
    have HS := Lib.hid hst
    clear hst HS3
    by_cases hkn : k < n ∧ k < 80
    · obtain ⟨hk1, hk2⟩ := hkn
      have hb : Below w.heap.size w wr := by obtain ⟨_, _, _, _, _, _, _, h⟩ := HS.out; exact h
      obtain ⟨b, off, rfl, r1⟩ := (HU.out.later hb (Nat.le_refl _)).here k hk1
      have hpe := ents_push (l := l) (k := k) (cap := 100) (by omega)
      have hlen := ents_length l k
      have KP := Lib.hid (HS.out.push1 (by omega) (t := l.getD k 0) hpe.1)
      have KQ : Hid (∀ (w1 : World), St w w1 g1 g2 (pushL 100 (ents l k) k (l.getD k 0)) (ents l k) → w1.cell? ⟨b, off + k, none⟩ = some (.int .u64 (l.getD k 0)) ∧ Calls Try.prog 7 #[.pointer (some ⟨g2, 0, none⟩), .int .i64 (k : Int), .int .u64 (l.getD k 0)] w1 fun e w' => e = .returned .nilIface ∧ St w w' g1 g2 (pushL 100 (ents l k) k (l.getD k 0)) (pushL 100 (ents l k) k (l.getD k 0))) := fun w1 h => by
        have hb1 : Below w.heap.size w w1 := by obtain ⟨_, _, _, _, _, _, _, h⟩ := h; exact h
        obtain ⟨b', off', e, r2⟩ := (HU.out.later hb1 (Nat.le_refl _)).here k hk1
        cases e
        exact ⟨r2, h.push2 (by omega) hpe.1⟩
      have HP := Lib.hid hpe
      obtain ⟨t, ht⟩ : ∃ t, t = l.getD k 0 := ⟨_, rfl⟩
      rw [← ht] at r1 KP KQ HP
      have HT := Lib.hid ht
      clear hb hpe hlen ht
      go_wp2_with fail
      refine KP.out.mono ?_
      rintro e w4 ⟨rfl, s4⟩
      have H4 := Lib.hid (KQ.out w4 s4)
      have r1 := H4.out.1
      clear s4
      go_wp2_with fail
      refine H4.out.2.mono ?_
      rintro e w5 ⟨rfl, s5⟩
      have H5 := Lib.hid s5
      clear s5
      go_wp2_with fail
      refine ⟨⟨k + 1, hk1, by omega, by go_num, ?_⟩, by simp [intOf]; omega⟩
      rw [← HP.out.2]
      exact H5.out
    · have hkm : k = min n 80 := by simp only [Nat.min_def]; split <;> omega
      have hHS := HS.out
      have hle : Hid ((ents l k).length = k) := ents_length l k
      have KD := Lib.hid (HS.out.due2 (by rw [hle.out]; omega) 18446744073709551615)
      clear hHS
      have hall : Hid (∀ e ∈ ents l k, e.at_ ≤ 18446744073709551615) := fun e he => by
        obtain ⟨i, _, rfl⟩ := ents_mem he
        exact (HU.out.range_at i).2
      have hmin : ((if (n : Int) ≤ 80 then (n : Int) else 80) : Int) = (k : Int) := by
        rw [hkm]
        simp only [Nat.min_def]
        split <;> split <;> omega
      have HM := Lib.hid hmin
      clear hmin hkm
      by_cases hkn2 : k < n
      case' pos =>
        have hk8 : ¬ ((k : Int) < 80) := by omega
        have hk9 : (k : Int) < (n : Int) := by omega
        clear hkn
        go_wp2_with fail
      case' neg =>
        have hk9 : ¬ ((k : Int) < (n : Int)) := by omega
        clear hkn
        go_wp2_with fail
      case pos =>
        refine KD.out.mono ?_
        rintro e w4 ⟨v, rfl, s4⟩
        obtain ⟨D, hD⟩ : ∃ D, D = (dueL 18446744073709551615 (ents l k)).1 := ⟨_, rfl⟩
        rw [← hD] at s4
        have hDl : D.length = k := by
          rw [hD, (due_all hall.out).1.length_eq]
          exact hle.out
        have s4' := s4
        obtain ⟨_, _, _, _, hEO, _⟩ := s4'
        obtain ⟨AD, cD, rfl, _, _⟩ := EnS.of_own hEO
        rw [hDl] at s4 hEO ⊢
        have H4 := Lib.hid (And.intro s4 (And.intro hD hDl))
        clear s4 hD hDl hEO
        go_wp2_with fail
        go_loopw [7] (fun i wr => ∃ (j : Nat) (R : List En), j ≤ k ∧ i = .int .i64 j ∧ St1 w wr g1 R (.slice AD k cD) D ∧ (dueL 18446744073709551615 R).1 = D.drop j ∧ ∀ e ∈ R, e.at_ ≤ 18446744073709551615) (fun i _ => k - (intOf i).toNat)
        case atStart => exact ⟨0, ents l k, Nat.zero_le _, rfl, H4.out.1, H4.out.2.1.symm, hall.out⟩
        case round =>
          obtain ⟨j, R, hj, rfl, hs1, hdue, hR⟩ := hrel
          by_cases hjk : j < k
          · obtain ⟨e, he⟩ : ∃ e, D[j]? = some e := ⟨D[j]'(by rw [H4.out.2.2]; exact hjk), List.getElem?_eq_getElem _⟩
            have hdrop : D.drop j = e :: D.drop (j + 1) := by
              obtain ⟨h1, h2⟩ := List.getElem?_eq_some_iff.1 he
              rw [← h2]
              exact List.drop_eq_getElem_cons h1
            rw [hdrop] at hdue
            have hs1' := hs1
            obtain ⟨ob, hq, hlo, hbb, hEO, hv1, hv2⟩ := hs1'
            obtain ⟨d1, d2, d3⟩ := due_step hq.uniq hdue hR
            have KN := Lib.hid (next_L hq)
            rw [d1] at KN
            unfold nextR at KN
            have KA : Hid (∀ w', Below wr.heap.size wr w' → Calls Try.prog 11 #[.pointer (some ⟨g1, 0, none⟩), .int .i64 e.id] w' fun x w'' => x = .returned (.tuple #[.int .u64 e.at_, .bool true]) ∧ Below w'.heap.size w' w'') := fun w' hb => by
              have h := at_L (hq.later hb (Nat.le_refl _)) e.id
              rw [atV_of hq.uniq d2] at h
              exact h
            have HR := Lib.hid (And.intro hs1 (And.intro d2 (And.intro d3 (And.intro hR he))))
            have HO := Lib.hid (And.intro hq (And.intro hlo (And.intro hbb (And.intro hEO (And.intro hv1 hv2)))))
            clear hs1 hq hlo hbb hEO hv1 hv2 d1 d2 d3 hdue hdrop hR he
            have hjk2 : (j : Int) < (k : Int) := by omega
            dsimp only at KN
            go_wp2_with (refine KN.out.mono ?_; rintro x w5 ⟨rfl, b5⟩)
            have b6 : Below wr.heap.size wr (w5.alloc (.cells #[.int .i64 e.id, .int .u64 e.at_] 34)) := b5.alloc b5.size _
            have hbx : (w5.alloc (.cells #[.int .i64 e.id, .int .u64 e.at_] 34)).rangeAt w5.heap.size 0 [.int .i64 e.id, .int .u64 e.at_] := range2_new w5 _ _ _
            have hl5 : w5.heap.size < (w5.alloc (.cells #[.int .i64 e.id, .int .u64 e.at_] 34)).heap.size := by simp
            obtain ⟨Z, hZ⟩ : ∃ Z, Z = w5.heap.size := ⟨_, rfl⟩
            obtain ⟨W, hW⟩ : ∃ W, w5.alloc (.cells #[.int .i64 e.id, .int .u64 e.at_] 34) = W := ⟨_, rfl⟩
            have hZr : wr.heap.size ≤ Z := hZ ▸ b5.size
            rw [hW, ← hZ] at hbx hl5
            rw [hW] at b6
            rw [hW, ← hZ]
            clear hW hZ b5
            have x0 := hbx 0 _ rfl
            refine (KA.out W b6).mono ?_
            rintro x w7 ⟨rfl, b7⟩
            have b8 : Below wr.heap.size wr w7.drew := below_of_drew (b6.trans (b7.mono b6.size))
            have hbx7 := range_later hbx (below_of_drew b7) (Nat.le_refl _)
            have hq7 := HO.out.1.later b8 (Nat.le_refl _)
            have hEO7 : EO w7.drew (.slice AD k cD) D := HO.out.2.2.2.1.kept fun b hb2 => b8.block b (HO.out.2.2.2.1.lt hb2)
            have hAb : ∃ b, AD = some ⟨b, 0, none⟩ ∧ w7.drew.rangeAt b (j * 2) [.int .i64 e.id, .int .u64 e.at_] := by
              obtain ⟨A', c', e', hs', hA'⟩ := EnS.of_own hEO7
              cases e'
              obtain ⟨b, off, e2, hr⟩ := hs'.range HR.out.2.2.2.2
              rcases hA' with e3 | ⟨b3, e3⟩
              · rw [e3] at e2; cases e2
              · rw [e3] at e2
                cases e2
                exact ⟨_, e3, by rw [Nat.zero_add] at hr; exact hr⟩
            obtain ⟨b, rfl, hrow⟩ := hAb
            have hbD : b < wr.heap.size := HO.out.2.2.2.1.lt rfl
            have KC := Lib.hid (cancel_L hq7 e.id)
            have hZ7 : Z < w7.drew.heap.size := Nat.lt_of_lt_of_le hl5 b7.size
            obtain ⟨S, hSd⟩ : ∃ S : World → Prop, S = fun w' => w'.rangeAt Z 0 [.int .i64 e.id, .int .u64 e.at_] ∧ w'.rangeAt b (j * 2) [.int .i64 e.id, .int .u64 e.at_] := ⟨_, rfl⟩
            have hS : Kp S w7.drew := by unfold Kp; rw [hSd]; exact ⟨hbx7, hrow⟩
            have s1 : ∀ w', Kp S w' → w'.rangeAt Z 0 [.int .i64 e.id, .int .u64 e.at_] := fun w' h => by unfold Kp at h; rw [hSd] at h; exact h.1
            have s2 : ∀ w', Kp S w' → w'.rangeAt b (j * 2) [.int .i64 e.id, .int .u64 e.at_] := fun w' h => by unfold Kp at h; rw [hSd] at h; exact h.2
            have s3 : ∀ w', Kp S w' → w'.cell? ⟨Z, 0, none⟩ = some (.int .i64 e.id) := fun w' h => s1 w' h 0 _ rfl
            have s4 : ∀ w', Kp S w' → w'.cell? ⟨Z, 1, none⟩ = some (.int .u64 e.at_) := fun w' h => s1 w' h 1 _ rfl
            have HSd := Lib.hid hSd
            have HS2 := Lib.hid (And.intro s1 s2)
            have H7 := Lib.hid (And.intro hq7 (And.intro hEO7 (And.intro b8 hZ7)))
            clear hbx hbx7 x0 hq7 hEO7 hrow hSd s1 s2 b6 b7 hl5 KA KN hZ7
            have q2 := neqEn
            have z1 : (e.id == e.id) = true := by simp
            have z2 : (e.at_ == e.at_) = true := by simp
            have z3 : (e.at_ != e.at_) = false := by simp
            go_wp2_with fail
            refine rg_begin (Kp S) 27 (by kernel_rfl) rfl ?_
            clear b8
            obtain ⟨W7, hW7⟩ : ∃ W7, w7.drew = W7 := ⟨_, rfl⟩
            rw [hW7] at hS H7 KC ⊢
            clear hW7
            refine rg_take 0 (v := ?rv1) rfl (by kernel_rfl) (by kernel_rfl) (by kernel_rfl) (fun _ _ _ h => h) (by rfl) hS (fun w2 hw2 => ?ry1) ?rr1
            case ry1 => ((try dsimp only at hw2); go_simp <;> with_reducible rfl)
            simp only [Act.put, List.setIfInBounds_toArray, List.set_cons_zero, List.set_cons_succ]
            refine rg_take 1 (v := ?rv2) rfl (by kernel_rfl) (by kernel_rfl) (by kernel_rfl) (fun _ _ _ h => h) (by rfl) hS (fun w2 hw2 => ?ry2) ?rr2
            case ry2 => ((try dsimp only at hw2); go_simp <;> with_reducible rfl)
            simp only [Act.put, List.setIfInBounds_toArray, List.set_cons_zero, List.set_cons_succ]
            refine rg_take 2 (v := ?rv3) rfl (by kernel_rfl) (by kernel_rfl) (by kernel_rfl) (fun _ _ _ h => h) (by rfl) hS (fun w2 hw2 => ?ry3) ?rr3
            case ry3 => ((try dsimp only at hw2); go_simp <;> with_reducible rfl)
            simp only [Act.put, List.setIfInBounds_toArray, List.set_cons_zero, List.set_cons_succ]
            refine rg_load 3 rfl (by kernel_rfl) (by kernel_rfl) (by kernel_rfl) (Z) (0) (#[.int .i64 e.id, .int .u64 e.at_]) (fun _ _ _ h => h) (by rfl) 34 (.tmp 8) rfl rfl hS (fun w2 h2 => HS2.out.1 w2 h2) Try.underlying34 rfl (by kernel_rfl) ?_
            simp only [Act.put, List.setIfInBounds_toArray, List.set_cons_zero, List.set_cons_succ]
            refine rg_take 4 (v := ?rv4) rfl (by kernel_rfl) (by kernel_rfl) (by kernel_rfl) (fun _ _ _ h => h) (by rfl) hS (fun w2 hw2 => ?ry4) ?rr4
            case ry4 => ((try dsimp only at hw2); go_simp <;> with_reducible rfl)
            simp only [Act.put, List.setIfInBounds_toArray, List.set_cons_zero, List.set_cons_succ]
            refine rg_take 5 (v := ?rv5) rfl (by kernel_rfl) (by kernel_rfl) (by kernel_rfl) (fun _ _ _ h => h) (by rfl) hS (fun w2 hw2 => ?ry5) ?rr5
            case ry5 => ((try dsimp only at hw2); go_simp <;> with_reducible rfl)
            simp only [Act.put, List.setIfInBounds_toArray, List.set_cons_zero, List.set_cons_succ]
            refine rg_take 6 (v := ?rv6) rfl (by kernel_rfl) (by kernel_rfl) (by kernel_rfl) (fun _ _ _ h => h) (by rfl) hS (fun w2 hw2 => ?ry6) ?rr6
            case ry6 => ((try dsimp only at hw2); go_simp <;> with_reducible rfl)
            simp only [Act.put, List.setIfInBounds_toArray, List.set_cons_zero, List.set_cons_succ]
            refine rg_load 7 rfl (by kernel_rfl) (by kernel_rfl) (by kernel_rfl) (b) (j * 2) (#[.int .i64 e.id, .int .u64 e.at_]) (fun _ _ _ h => h) (by rfl) 34 (.tmp 76) rfl rfl hS (fun w2 h2 => HS2.out.2 w2 h2) Try.underlying34 rfl (by kernel_rfl) ?_
            simp only [Act.put, List.setIfInBounds_toArray, List.set_cons_zero, List.set_cons_succ]
            refine rg_take 8 (v := ?rv7) rfl (by kernel_rfl) (by kernel_rfl) (by kernel_rfl) (fun _ _ _ h => h) (by rfl) hS (fun w2 hw2 => ?ry7) ?rr7
            case ry7 => ((try dsimp only at hw2); go_simp <;> with_reducible rfl)
            simp only [Act.put, List.setIfInBounds_toArray, List.set_cons_zero, List.set_cons_succ]
            refine rg_take 9 (v := ?rv8) rfl (by kernel_rfl) (by kernel_rfl) (by kernel_rfl) (fun _ _ _ h => h) (by rfl) hS (fun w2 hw2 => ?ry8) ?rr8
            case ry8 => ((try dsimp only at hw2); go_simp <;> with_reducible rfl)
            simp only [Act.put, List.setIfInBounds_toArray, List.set_cons_zero, List.set_cons_succ]
            refine rg_take 10 (v := ?rv9) rfl (by kernel_rfl) (by kernel_rfl) (by kernel_rfl) (fun _ _ _ h => h) (by rfl) hS (fun w2 hw2 => ?ry9) ?rr9
            case ry9 => ((try dsimp only at hw2); go_simp <;> with_reducible rfl)
            simp only [Act.put, List.setIfInBounds_toArray, List.set_cons_zero, List.set_cons_succ]
            refine rg_take 11 (v := ?rv10) rfl (by kernel_rfl) (by kernel_rfl) (by kernel_rfl) (fun _ _ _ h => h) (by rfl) hS (fun w2 hw2 => ?ry10) ?rr10
            case ry10 => ((try dsimp only at hw2); go_simp <;> with_reducible rfl)
            simp only [Act.put, List.setIfInBounds_toArray, List.set_cons_zero, List.set_cons_succ]
            refine rg_take 12 (v := ?rv11) rfl (by kernel_rfl) (by kernel_rfl) (by kernel_rfl) (fun _ _ _ h => h) (by rfl) hS (fun w2 hw2 => ?ry11) ?rr11
            case ry11 => ((try dsimp only at hw2); go_simp <;> with_reducible rfl)
            simp only [Act.put, List.setIfInBounds_toArray, List.set_cons_zero, List.set_cons_succ]
            refine rg_take 13 (v := ?rv12) rfl (by kernel_rfl) (by kernel_rfl) (by kernel_rfl) (fun _ _ _ h => h) (by rfl) hS (fun w2 hw2 => ?ry12) ?rr12
            case ry12 => ((try dsimp only at hw2); go_simp <;> with_reducible rfl)
            simp only [Act.put, List.setIfInBounds_toArray, List.set_cons_zero, List.set_cons_succ]
            refine rg_take 14 (v := ?rv13) rfl (by kernel_rfl) (by kernel_rfl) (by kernel_rfl) (fun _ _ _ h => h) (by rfl) hS (fun w2 hw2 => ?ry13) ?rr13
            case ry13 => ((try dsimp only at hw2); go_simp <;> with_reducible rfl)
            simp only [Act.put, List.setIfInBounds_toArray, List.set_cons_zero, List.set_cons_succ]
            refine rg_take 15 (v := ?rv14) rfl (by kernel_rfl) (by kernel_rfl) (by kernel_rfl) (fun _ _ _ h => h) (by rfl) hS (fun w2 hw2 => ?ry14) ?rr14
            case ry14 => ((try dsimp only at hw2); go_simp <;> with_reducible rfl)
            simp only [Act.put, List.setIfInBounds_toArray, List.set_cons_zero, List.set_cons_succ]
            refine rg_take 16 (v := ?rv15) rfl (by kernel_rfl) (by kernel_rfl) (by kernel_rfl) (fun _ _ _ h => h) (by rfl) hS (fun w2 hw2 => ?ry15) ?rr15
            case ry15 => ((try dsimp only at hw2); go_simp <;> with_reducible rfl)
            simp only [Act.put, List.setIfInBounds_toArray, List.set_cons_zero, List.set_cons_succ]
            refine rg_take 17 (v := ?rv16) rfl (by kernel_rfl) (by kernel_rfl) (by kernel_rfl) (fun _ _ _ h => h) (by rfl) hS (fun w2 hw2 => ?ry16) ?rr16
            case ry16 => ((try dsimp only at hw2); go_simp <;> with_reducible rfl)
            simp only [Act.put, List.setIfInBounds_toArray, List.set_cons_zero, List.set_cons_succ]
            refine rg_take 18 (v := ?rv17) rfl (by kernel_rfl) (by kernel_rfl) (by kernel_rfl) (fun _ _ _ h => h) (by rfl) hS (fun w2 hw2 => ?ry17) ?rr17
            case ry17 => ((try dsimp only at hw2); go_simp <;> with_reducible rfl)
            simp only [Act.put, List.setIfInBounds_toArray, List.set_cons_zero, List.set_cons_succ]
            refine rg_take 19 (v := ?rv18) rfl (by kernel_rfl) (by kernel_rfl) (by kernel_rfl) (fun _ _ _ h => h) (by rfl) hS (fun w2 hw2 => ?ry18) ?rr18
            case ry18 => ((try dsimp only at hw2); go_simp <;> with_reducible rfl)
            simp only [Act.put, List.setIfInBounds_toArray, List.set_cons_zero, List.set_cons_succ]
            refine rg_take 20 (v := ?rv19) rfl (by kernel_rfl) (by kernel_rfl) (by kernel_rfl) (fun _ _ _ h => h) (by rfl) hS (fun w2 hw2 => ?ry19) ?rr19
            case ry19 => ((try dsimp only at hw2); go_simp <;> with_reducible rfl)
            simp only [Act.put, List.setIfInBounds_toArray, List.set_cons_zero, List.set_cons_succ]
            refine rg_take 21 (v := ?rv20) rfl (by kernel_rfl) (by kernel_rfl) (by kernel_rfl) (fun _ _ _ h => h) (by rfl) hS (fun w2 hw2 => ?ry20) ?rr20
            case ry20 => ((try dsimp only at hw2); go_simp <;> with_reducible rfl)
            simp only [Act.put, List.setIfInBounds_toArray, List.set_cons_zero, List.set_cons_succ]
            refine rg_take 22 (v := ?rv21) rfl (by kernel_rfl) (by kernel_rfl) (by kernel_rfl) (fun _ _ _ h => h) (by rfl) hS (fun w2 hw2 => ?ry21) ?rr21
            case ry21 => ((try dsimp only at hw2); go_simp <;> with_reducible rfl)
            simp only [Act.put, List.setIfInBounds_toArray, List.set_cons_zero, List.set_cons_succ]
            refine rg_take 23 (v := ?rv22) rfl (by kernel_rfl) (by kernel_rfl) (by kernel_rfl) (fun _ _ _ h => h) (by rfl) hS (fun w2 hw2 => ?ry22) ?rr22
            case ry22 => ((try dsimp only at hw2); go_simp <;> with_reducible rfl)
            simp only [Act.put, List.setIfInBounds_toArray, List.set_cons_zero, List.set_cons_succ]
            refine rg_step 24 rfl (by kernel_rfl) (by rfl) (fun K hK => ?_)
            go_simp
            refine KC.out.mono ?_
            rintro x w8 ⟨rfl, hq8, hm8⟩
            have hS8 : Kp S w8 := by
              have h1 := HS2.out.1 _ hS
              have h2 := HS2.out.2 _ hS
              unfold Kp
              rw [HSd.out]
              have k1 : w8.heap[Z]? = W7.heap[Z]? := hm8.block Z H7.out.2.2.2 (fun e2 => by have := HO.out.1.lt; omega) (fun e2 => by have := HO.out.1.lto e2.symm; omega)
              have k2 : w8.heap[b]? = W7.heap[b]? := hm8.block b (Nat.lt_of_lt_of_le hbD H7.out.2.2.1.size) (fun e2 => HO.out.2.2.2.2.1 (by rw [← e2]; rfl)) (fun e2 => HO.out.2.2.2.2.2 b rfl e2.symm)
              exact ⟨fun i u hu => (World.cell?_of_block (w := W7) (a := ⟨Z, 0 + i, none⟩) k1).trans (h1 i u hu), fun i u hu => (World.cell?_of_block (w := W7) (a := ⟨b, j * 2 + i, none⟩) k2).trans (h2 i u hu)⟩
            have H8 := Lib.hid (And.intro hq8 hm8)
            clear hq8 hm8 hS
            have hS := hS8
            clear hS8
            have hcode : resV e.id (hasC R e.id) = .nilIface := by unfold hasC; rw [hasV_iff.2 ⟨e, HR.out.2.1, rfl⟩]; rfl
            rw [hcode]
            refine hK.out _ _ hS ?_
            clear hK K
            try simp only [Act.put, List.setIfInBounds_toArray, List.set_cons_zero, List.set_cons_succ]
            refine rg_take 25 (v := ?rv23) rfl (by kernel_rfl) (by kernel_rfl) (by kernel_rfl) (fun _ _ _ h => h) (by rfl) hS (fun w2 hw2 => ?ry23) ?rr23
            case ry23 => ((try dsimp only at hw2); go_simp <;> with_reducible rfl)
            simp only [Act.put, List.setIfInBounds_toArray, List.set_cons_zero, List.set_cons_succ]
            refine rg_take 26 (v := ?rv24) rfl (by kernel_rfl) (by kernel_rfl) (by kernel_rfl) (fun _ _ _ h => h) (by rfl) hS (fun w2 hw2 => ?ry24) ?rr24
            case ry24 => ((try dsimp only at hw2); go_simp <;> with_reducible rfl)
            simp only [Act.put, List.setIfInBounds_toArray, List.set_cons_zero, List.set_cons_succ]
            refine rg_done (by kernel_rfl) ?_
            clear hS s3 s4
            go_wp2_with fail
            refine ⟨⟨j + 1, cancelE R e.id, hjk, by go_num, ⟨ob, H8.out.1, HO.out.2.1, H8.out.2.lo (HO.out.2.2.1.trans (H7.out.2.2.1.mono HO.out.2.2.1.size)) HO.out.2.1 (HO.out.2.2.1.trans (H7.out.2.2.1.mono HO.out.2.2.1.size)).size, H7.out.2.1.other H8.out.2 HO.out.2.2.2.2.1 HO.out.2.2.2.2.2, HO.out.2.2.2.2.1, HO.out.2.2.2.2.2⟩, HR.out.2.2.1, fun x hx => HR.out.2.2.2.1 x (List.mem_filter.1 hx).1⟩, by simp [intOf]; omega⟩
          · obtain rfl : j = k := by omega
            have hs1' := hs1
            obtain ⟨ob, hq, hlo, hbb, _⟩ := hs1'
            have hnil : D.drop j = [] := List.drop_eq_nil_of_le (by rw [H4.out.2.2]; exact Nat.le_refl _)
            rw [hnil] at hdue
            have hR0 := due_nil_of hdue hR
            subst hR0
            have KN := Lib.hid (next_L hq)
            have KL : Hid (∀ w', Below wr.heap.size wr w' → Calls Try.prog 9 #[.pointer (some ⟨g1, 0, none⟩)] w' fun x w'' => x = .returned (.int .i64 0) ∧ w' = w'') := fun w' hb => len_L (hq.later hb (Nat.le_refl _))
            have HB := Lib.hid hbb
            clear hs1 hq hlo hbb hnil hdue hR
            unfold nextR nextV at KN
            dsimp only at KN
            go_wp2_with (refine KN.out.mono ?_; rintro x w5 ⟨rfl, b5⟩)
            have b6 : Below wr.heap.size wr (w5.alloc (.cells #[.int .i64 0, .int .u64 0] 34)) := b5.alloc b5.size _
            refine (KL.out _ b6).mono ?_
            rintro x w6 ⟨rfl, rfl⟩
            have H6 := Lib.hid (HB.out.trans (b6.mono HB.out.size))
            clear b5 b6
            have hmin := HM.out
            go_wp2_with fail
            all_goals
              go_ret
              refine ⟨?_, H6.out⟩
              first
                | exact congrArg (fun b => Ending.returned (Value.bool b)) (show ((j : Int) == 80) = true by rw [beq_iff_eq]; omega)
                | exact congrArg (fun b => Ending.returned (Value.bool b)) (show ((j : Int) == (n : Int)) = true by rw [beq_iff_eq]; omega)
      case neg =>
        refine KD.out.mono ?_
        rintro e w4 ⟨v, rfl, s4⟩
        obtain ⟨D, hD⟩ : ∃ D, D = (dueL 18446744073709551615 (ents l k)).1 := ⟨_, rfl⟩
        rw [← hD] at s4
        have hDl : D.length = k := by
          rw [hD, (due_all hall.out).1.length_eq]
          exact hle.out
        have s4' := s4
        obtain ⟨_, _, _, _, hEO, _⟩ := s4'
        obtain ⟨AD, cD, rfl, _, _⟩ := EnS.of_own hEO
        rw [hDl] at s4 hEO ⊢
        have H4 := Lib.hid (And.intro s4 (And.intro hD hDl))
        clear s4 hD hDl hEO
        go_wp2_with fail
        go_loopw [7] (fun i wr => ∃ (j : Nat) (R : List En), j ≤ k ∧ i = .int .i64 j ∧ St1 w wr g1 R (.slice AD k cD) D ∧ (dueL 18446744073709551615 R).1 = D.drop j ∧ ∀ e ∈ R, e.at_ ≤ 18446744073709551615) (fun i _ => k - (intOf i).toNat)
        case atStart => exact ⟨0, ents l k, Nat.zero_le _, rfl, H4.out.1, H4.out.2.1.symm, hall.out⟩
        case round =>
          obtain ⟨j, R, hj, rfl, hs1, hdue, hR⟩ := hrel
          by_cases hjk : j < k
          · obtain ⟨e, he⟩ : ∃ e, D[j]? = some e := ⟨D[j]'(by rw [H4.out.2.2]; exact hjk), List.getElem?_eq_getElem _⟩
            have hdrop : D.drop j = e :: D.drop (j + 1) := by
              obtain ⟨h1, h2⟩ := List.getElem?_eq_some_iff.1 he
              rw [← h2]
              exact List.drop_eq_getElem_cons h1
            rw [hdrop] at hdue
            have hs1' := hs1
            obtain ⟨ob, hq, hlo, hbb, hEO, hv1, hv2⟩ := hs1'
            obtain ⟨d1, d2, d3⟩ := due_step hq.uniq hdue hR
            have KN := Lib.hid (next_L hq)
            rw [d1] at KN
            unfold nextR at KN
            have KA : Hid (∀ w', Below wr.heap.size wr w' → Calls Try.prog 11 #[.pointer (some ⟨g1, 0, none⟩), .int .i64 e.id] w' fun x w'' => x = .returned (.tuple #[.int .u64 e.at_, .bool true]) ∧ Below w'.heap.size w' w'') := fun w' hb => by
              have h := at_L (hq.later hb (Nat.le_refl _)) e.id
              rw [atV_of hq.uniq d2] at h
              exact h
            have HR := Lib.hid (And.intro hs1 (And.intro d2 (And.intro d3 (And.intro hR he))))
            have HO := Lib.hid (And.intro hq (And.intro hlo (And.intro hbb (And.intro hEO (And.intro hv1 hv2)))))
            clear hs1 hq hlo hbb hEO hv1 hv2 d1 d2 d3 hdue hdrop hR he
            have hjk2 : (j : Int) < (k : Int) := by omega
            dsimp only at KN
            go_wp2_with (refine KN.out.mono ?_; rintro x w5 ⟨rfl, b5⟩)
            have b6 : Below wr.heap.size wr (w5.alloc (.cells #[.int .i64 e.id, .int .u64 e.at_] 34)) := b5.alloc b5.size _
            have hbx : (w5.alloc (.cells #[.int .i64 e.id, .int .u64 e.at_] 34)).rangeAt w5.heap.size 0 [.int .i64 e.id, .int .u64 e.at_] := range2_new w5 _ _ _
            have hl5 : w5.heap.size < (w5.alloc (.cells #[.int .i64 e.id, .int .u64 e.at_] 34)).heap.size := by simp
            obtain ⟨Z, hZ⟩ : ∃ Z, Z = w5.heap.size := ⟨_, rfl⟩
            obtain ⟨W, hW⟩ : ∃ W, w5.alloc (.cells #[.int .i64 e.id, .int .u64 e.at_] 34) = W := ⟨_, rfl⟩
            have hZr : wr.heap.size ≤ Z := hZ ▸ b5.size
            rw [hW, ← hZ] at hbx hl5
            rw [hW] at b6
            rw [hW, ← hZ]
            clear hW hZ b5
            have x0 := hbx 0 _ rfl
            refine (KA.out W b6).mono ?_
            rintro x w7 ⟨rfl, b7⟩
            have b8 : Below wr.heap.size wr w7.drew := below_of_drew (b6.trans (b7.mono b6.size))
            have hbx7 := range_later hbx (below_of_drew b7) (Nat.le_refl _)
            have hq7 := HO.out.1.later b8 (Nat.le_refl _)
            have hEO7 : EO w7.drew (.slice AD k cD) D := HO.out.2.2.2.1.kept fun b hb2 => b8.block b (HO.out.2.2.2.1.lt hb2)
            have hAb : ∃ b, AD = some ⟨b, 0, none⟩ ∧ w7.drew.rangeAt b (j * 2) [.int .i64 e.id, .int .u64 e.at_] := by
              obtain ⟨A', c', e', hs', hA'⟩ := EnS.of_own hEO7
              cases e'
              obtain ⟨b, off, e2, hr⟩ := hs'.range HR.out.2.2.2.2
              rcases hA' with e3 | ⟨b3, e3⟩
              · rw [e3] at e2; cases e2
              · rw [e3] at e2
                cases e2
                exact ⟨_, e3, by rw [Nat.zero_add] at hr; exact hr⟩
            obtain ⟨b, rfl, hrow⟩ := hAb
            have hbD : b < wr.heap.size := HO.out.2.2.2.1.lt rfl
            have KC := Lib.hid (cancel_L hq7 e.id)
            have hZ7 : Z < w7.drew.heap.size := Nat.lt_of_lt_of_le hl5 b7.size
            obtain ⟨S, hSd⟩ : ∃ S : World → Prop, S = fun w' => w'.rangeAt Z 0 [.int .i64 e.id, .int .u64 e.at_] ∧ w'.rangeAt b (j * 2) [.int .i64 e.id, .int .u64 e.at_] := ⟨_, rfl⟩
            have hS : Kp S w7.drew := by unfold Kp; rw [hSd]; exact ⟨hbx7, hrow⟩
            have s1 : ∀ w', Kp S w' → w'.rangeAt Z 0 [.int .i64 e.id, .int .u64 e.at_] := fun w' h => by unfold Kp at h; rw [hSd] at h; exact h.1
            have s2 : ∀ w', Kp S w' → w'.rangeAt b (j * 2) [.int .i64 e.id, .int .u64 e.at_] := fun w' h => by unfold Kp at h; rw [hSd] at h; exact h.2
            have s3 : ∀ w', Kp S w' → w'.cell? ⟨Z, 0, none⟩ = some (.int .i64 e.id) := fun w' h => s1 w' h 0 _ rfl
            have s4 : ∀ w', Kp S w' → w'.cell? ⟨Z, 1, none⟩ = some (.int .u64 e.at_) := fun w' h => s1 w' h 1 _ rfl
            have HSd := Lib.hid hSd
            have HS2 := Lib.hid (And.intro s1 s2)
            have H7 := Lib.hid (And.intro hq7 (And.intro hEO7 (And.intro b8 hZ7)))
            clear hbx hbx7 x0 hq7 hEO7 hrow hSd s1 s2 b6 b7 hl5 KA KN hZ7
            have q2 := neqEn
            have z1 : (e.id == e.id) = true := by simp
            have z2 : (e.at_ == e.at_) = true := by simp
            have z3 : (e.at_ != e.at_) = false := by simp
            go_wp2_with fail
            refine rg_begin (Kp S) 27 (by kernel_rfl) rfl ?_
            clear b8
            obtain ⟨W7, hW7⟩ : ∃ W7, w7.drew = W7 := ⟨_, rfl⟩
            rw [hW7] at hS H7 KC ⊢
            clear hW7
            refine rg_take 0 (v := ?rv25) rfl (by kernel_rfl) (by kernel_rfl) (by kernel_rfl) (fun _ _ _ h => h) (by rfl) hS (fun w2 hw2 => ?ry25) ?rr25
            case ry25 => ((try dsimp only at hw2); go_simp <;> with_reducible rfl)
            simp only [Act.put, List.setIfInBounds_toArray, List.set_cons_zero, List.set_cons_succ]
            refine rg_take 1 (v := ?rv26) rfl (by kernel_rfl) (by kernel_rfl) (by kernel_rfl) (fun _ _ _ h => h) (by rfl) hS (fun w2 hw2 => ?ry26) ?rr26
            case ry26 => ((try dsimp only at hw2); go_simp <;> with_reducible rfl)
            simp only [Act.put, List.setIfInBounds_toArray, List.set_cons_zero, List.set_cons_succ]
            refine rg_take 2 (v := ?rv27) rfl (by kernel_rfl) (by kernel_rfl) (by kernel_rfl) (fun _ _ _ h => h) (by rfl) hS (fun w2 hw2 => ?ry27) ?rr27
            case ry27 => ((try dsimp only at hw2); go_simp <;> with_reducible rfl)
            simp only [Act.put, List.setIfInBounds_toArray, List.set_cons_zero, List.set_cons_succ]
            refine rg_load 3 rfl (by kernel_rfl) (by kernel_rfl) (by kernel_rfl) (Z) (0) (#[.int .i64 e.id, .int .u64 e.at_]) (fun _ _ _ h => h) (by rfl) 34 (.tmp 8) rfl rfl hS (fun w2 h2 => HS2.out.1 w2 h2) Try.underlying34 rfl (by kernel_rfl) ?_
            simp only [Act.put, List.setIfInBounds_toArray, List.set_cons_zero, List.set_cons_succ]
            refine rg_take 4 (v := ?rv28) rfl (by kernel_rfl) (by kernel_rfl) (by kernel_rfl) (fun _ _ _ h => h) (by rfl) hS (fun w2 hw2 => ?ry28) ?rr28
            case ry28 => ((try dsimp only at hw2); go_simp <;> with_reducible rfl)
            simp only [Act.put, List.setIfInBounds_toArray, List.set_cons_zero, List.set_cons_succ]
            refine rg_take 5 (v := ?rv29) rfl (by kernel_rfl) (by kernel_rfl) (by kernel_rfl) (fun _ _ _ h => h) (by rfl) hS (fun w2 hw2 => ?ry29) ?rr29
            case ry29 => ((try dsimp only at hw2); go_simp <;> with_reducible rfl)
            simp only [Act.put, List.setIfInBounds_toArray, List.set_cons_zero, List.set_cons_succ]
            refine rg_take 6 (v := ?rv30) rfl (by kernel_rfl) (by kernel_rfl) (by kernel_rfl) (fun _ _ _ h => h) (by rfl) hS (fun w2 hw2 => ?ry30) ?rr30
            case ry30 => ((try dsimp only at hw2); go_simp <;> with_reducible rfl)
            simp only [Act.put, List.setIfInBounds_toArray, List.set_cons_zero, List.set_cons_succ]
            refine rg_load 7 rfl (by kernel_rfl) (by kernel_rfl) (by kernel_rfl) (b) (j * 2) (#[.int .i64 e.id, .int .u64 e.at_]) (fun _ _ _ h => h) (by rfl) 34 (.tmp 76) rfl rfl hS (fun w2 h2 => HS2.out.2 w2 h2) Try.underlying34 rfl (by kernel_rfl) ?_
            simp only [Act.put, List.setIfInBounds_toArray, List.set_cons_zero, List.set_cons_succ]
            refine rg_take 8 (v := ?rv31) rfl (by kernel_rfl) (by kernel_rfl) (by kernel_rfl) (fun _ _ _ h => h) (by rfl) hS (fun w2 hw2 => ?ry31) ?rr31
            case ry31 => ((try dsimp only at hw2); go_simp <;> with_reducible rfl)
            simp only [Act.put, List.setIfInBounds_toArray, List.set_cons_zero, List.set_cons_succ]
            refine rg_take 9 (v := ?rv32) rfl (by kernel_rfl) (by kernel_rfl) (by kernel_rfl) (fun _ _ _ h => h) (by rfl) hS (fun w2 hw2 => ?ry32) ?rr32
            case ry32 => ((try dsimp only at hw2); go_simp <;> with_reducible rfl)
            simp only [Act.put, List.setIfInBounds_toArray, List.set_cons_zero, List.set_cons_succ]
            refine rg_take 10 (v := ?rv33) rfl (by kernel_rfl) (by kernel_rfl) (by kernel_rfl) (fun _ _ _ h => h) (by rfl) hS (fun w2 hw2 => ?ry33) ?rr33
            case ry33 => ((try dsimp only at hw2); go_simp <;> with_reducible rfl)
            simp only [Act.put, List.setIfInBounds_toArray, List.set_cons_zero, List.set_cons_succ]
            refine rg_take 11 (v := ?rv34) rfl (by kernel_rfl) (by kernel_rfl) (by kernel_rfl) (fun _ _ _ h => h) (by rfl) hS (fun w2 hw2 => ?ry34) ?rr34
            case ry34 => ((try dsimp only at hw2); go_simp <;> with_reducible rfl)
            simp only [Act.put, List.setIfInBounds_toArray, List.set_cons_zero, List.set_cons_succ]
            refine rg_take 12 (v := ?rv35) rfl (by kernel_rfl) (by kernel_rfl) (by kernel_rfl) (fun _ _ _ h => h) (by rfl) hS (fun w2 hw2 => ?ry35) ?rr35
            case ry35 => ((try dsimp only at hw2); go_simp <;> with_reducible rfl)
            simp only [Act.put, List.setIfInBounds_toArray, List.set_cons_zero, List.set_cons_succ]
            refine rg_take 13 (v := ?rv36) rfl (by kernel_rfl) (by kernel_rfl) (by kernel_rfl) (fun _ _ _ h => h) (by rfl) hS (fun w2 hw2 => ?ry36) ?rr36
            case ry36 => ((try dsimp only at hw2); go_simp <;> with_reducible rfl)
            simp only [Act.put, List.setIfInBounds_toArray, List.set_cons_zero, List.set_cons_succ]
            refine rg_take 14 (v := ?rv37) rfl (by kernel_rfl) (by kernel_rfl) (by kernel_rfl) (fun _ _ _ h => h) (by rfl) hS (fun w2 hw2 => ?ry37) ?rr37
            case ry37 => ((try dsimp only at hw2); go_simp <;> with_reducible rfl)
            simp only [Act.put, List.setIfInBounds_toArray, List.set_cons_zero, List.set_cons_succ]
            refine rg_take 15 (v := ?rv38) rfl (by kernel_rfl) (by kernel_rfl) (by kernel_rfl) (fun _ _ _ h => h) (by rfl) hS (fun w2 hw2 => ?ry38) ?rr38
            case ry38 => ((try dsimp only at hw2); go_simp <;> with_reducible rfl)
            simp only [Act.put, List.setIfInBounds_toArray, List.set_cons_zero, List.set_cons_succ]
            refine rg_take 16 (v := ?rv39) rfl (by kernel_rfl) (by kernel_rfl) (by kernel_rfl) (fun _ _ _ h => h) (by rfl) hS (fun w2 hw2 => ?ry39) ?rr39
            case ry39 => ((try dsimp only at hw2); go_simp <;> with_reducible rfl)
            simp only [Act.put, List.setIfInBounds_toArray, List.set_cons_zero, List.set_cons_succ]
            refine rg_take 17 (v := ?rv40) rfl (by kernel_rfl) (by kernel_rfl) (by kernel_rfl) (fun _ _ _ h => h) (by rfl) hS (fun w2 hw2 => ?ry40) ?rr40
            case ry40 => ((try dsimp only at hw2); go_simp <;> with_reducible rfl)
            simp only [Act.put, List.setIfInBounds_toArray, List.set_cons_zero, List.set_cons_succ]
            refine rg_take 18 (v := ?rv41) rfl (by kernel_rfl) (by kernel_rfl) (by kernel_rfl) (fun _ _ _ h => h) (by rfl) hS (fun w2 hw2 => ?ry41) ?rr41
            case ry41 => ((try dsimp only at hw2); go_simp <;> with_reducible rfl)
            simp only [Act.put, List.setIfInBounds_toArray, List.set_cons_zero, List.set_cons_succ]
            refine rg_take 19 (v := ?rv42) rfl (by kernel_rfl) (by kernel_rfl) (by kernel_rfl) (fun _ _ _ h => h) (by rfl) hS (fun w2 hw2 => ?ry42) ?rr42
            case ry42 => ((try dsimp only at hw2); go_simp <;> with_reducible rfl)
            simp only [Act.put, List.setIfInBounds_toArray, List.set_cons_zero, List.set_cons_succ]
            refine rg_take 20 (v := ?rv43) rfl (by kernel_rfl) (by kernel_rfl) (by kernel_rfl) (fun _ _ _ h => h) (by rfl) hS (fun w2 hw2 => ?ry43) ?rr43
            case ry43 => ((try dsimp only at hw2); go_simp <;> with_reducible rfl)
            simp only [Act.put, List.setIfInBounds_toArray, List.set_cons_zero, List.set_cons_succ]
            refine rg_take 21 (v := ?rv44) rfl (by kernel_rfl) (by kernel_rfl) (by kernel_rfl) (fun _ _ _ h => h) (by rfl) hS (fun w2 hw2 => ?ry44) ?rr44
            case ry44 => ((try dsimp only at hw2); go_simp <;> with_reducible rfl)
            simp only [Act.put, List.setIfInBounds_toArray, List.set_cons_zero, List.set_cons_succ]
            refine rg_take 22 (v := ?rv45) rfl (by kernel_rfl) (by kernel_rfl) (by kernel_rfl) (fun _ _ _ h => h) (by rfl) hS (fun w2 hw2 => ?ry45) ?rr45
            case ry45 => ((try dsimp only at hw2); go_simp <;> with_reducible rfl)
            simp only [Act.put, List.setIfInBounds_toArray, List.set_cons_zero, List.set_cons_succ]
            refine rg_take 23 (v := ?rv46) rfl (by kernel_rfl) (by kernel_rfl) (by kernel_rfl) (fun _ _ _ h => h) (by rfl) hS (fun w2 hw2 => ?ry46) ?rr46
            case ry46 => ((try dsimp only at hw2); go_simp <;> with_reducible rfl)
            simp only [Act.put, List.setIfInBounds_toArray, List.set_cons_zero, List.set_cons_succ]
            refine rg_step 24 rfl (by kernel_rfl) (by rfl) (fun K hK => ?_)
            go_simp
            refine KC.out.mono ?_
            rintro x w8 ⟨rfl, hq8, hm8⟩
            have hS8 : Kp S w8 := by
              have h1 := HS2.out.1 _ hS
              have h2 := HS2.out.2 _ hS
              unfold Kp
              rw [HSd.out]
              have k1 : w8.heap[Z]? = W7.heap[Z]? := hm8.block Z H7.out.2.2.2 (fun e2 => by have := HO.out.1.lt; omega) (fun e2 => by have := HO.out.1.lto e2.symm; omega)
              have k2 : w8.heap[b]? = W7.heap[b]? := hm8.block b (Nat.lt_of_lt_of_le hbD H7.out.2.2.1.size) (fun e2 => HO.out.2.2.2.2.1 (by rw [← e2]; rfl)) (fun e2 => HO.out.2.2.2.2.2 b rfl e2.symm)
              exact ⟨fun i u hu => (World.cell?_of_block (w := W7) (a := ⟨Z, 0 + i, none⟩) k1).trans (h1 i u hu), fun i u hu => (World.cell?_of_block (w := W7) (a := ⟨b, j * 2 + i, none⟩) k2).trans (h2 i u hu)⟩
            have H8 := Lib.hid (And.intro hq8 hm8)
            clear hq8 hm8 hS
            have hS := hS8
            clear hS8
            have hcode : resV e.id (hasC R e.id) = .nilIface := by unfold hasC; rw [hasV_iff.2 ⟨e, HR.out.2.1, rfl⟩]; rfl
            rw [hcode]
            refine hK.out _ _ hS ?_
            clear hK K
            try simp only [Act.put, List.setIfInBounds_toArray, List.set_cons_zero, List.set_cons_succ]
            refine rg_take 25 (v := ?rv47) rfl (by kernel_rfl) (by kernel_rfl) (by kernel_rfl) (fun _ _ _ h => h) (by rfl) hS (fun w2 hw2 => ?ry47) ?rr47
            case ry47 => ((try dsimp only at hw2); go_simp <;> with_reducible rfl)
            simp only [Act.put, List.setIfInBounds_toArray, List.set_cons_zero, List.set_cons_succ]
            refine rg_take 26 (v := ?rv48) rfl (by kernel_rfl) (by kernel_rfl) (by kernel_rfl) (fun _ _ _ h => h) (by rfl) hS (fun w2 hw2 => ?ry48) ?rr48
            case ry48 => ((try dsimp only at hw2); go_simp <;> with_reducible rfl)
            simp only [Act.put, List.setIfInBounds_toArray, List.set_cons_zero, List.set_cons_succ]
            refine rg_done (by kernel_rfl) ?_
            clear hS s3 s4
            go_wp2_with fail
            refine ⟨⟨j + 1, cancelE R e.id, hjk, by go_num, ⟨ob, H8.out.1, HO.out.2.1, H8.out.2.lo (HO.out.2.2.1.trans (H7.out.2.2.1.mono HO.out.2.2.1.size)) HO.out.2.1 (HO.out.2.2.1.trans (H7.out.2.2.1.mono HO.out.2.2.1.size)).size, H7.out.2.1.other H8.out.2 HO.out.2.2.2.2.1 HO.out.2.2.2.2.2, HO.out.2.2.2.2.1, HO.out.2.2.2.2.2⟩, HR.out.2.2.1, fun x hx => HR.out.2.2.2.1 x (List.mem_filter.1 hx).1⟩, by simp [intOf]; omega⟩
          · obtain rfl : j = k := by omega
            have hs1' := hs1
            obtain ⟨ob, hq, hlo, hbb, _⟩ := hs1'
            have hnil : D.drop j = [] := List.drop_eq_nil_of_le (by rw [H4.out.2.2]; exact Nat.le_refl _)
            rw [hnil] at hdue
            have hR0 := due_nil_of hdue hR
            subst hR0
            have KN := Lib.hid (next_L hq)
            have KL : Hid (∀ w', Below wr.heap.size wr w' → Calls Try.prog 9 #[.pointer (some ⟨g1, 0, none⟩)] w' fun x w'' => x = .returned (.int .i64 0) ∧ w' = w'') := fun w' hb => len_L (hq.later hb (Nat.le_refl _))
            have HB := Lib.hid hbb
            clear hs1 hq hlo hbb hnil hdue hR
            unfold nextR nextV at KN
            dsimp only at KN
            go_wp2_with (refine KN.out.mono ?_; rintro x w5 ⟨rfl, b5⟩)
            have b6 : Below wr.heap.size wr (w5.alloc (.cells #[.int .i64 0, .int .u64 0] 34)) := b5.alloc b5.size _
            refine (KL.out _ b6).mono ?_
            rintro x w6 ⟨rfl, rfl⟩
            have H6 := Lib.hid (HB.out.trans (b6.mono HB.out.size))
            clear b5 b6
            have hmin := HM.out
            go_wp2_with fail
            all_goals
              go_ret
              refine ⟨?_, H6.out⟩
              first
                | exact congrArg (fun b => Ending.returned (Value.bool b)) (show ((j : Int) == 80) = true by rw [beq_iff_eq]; omega)
                | exact congrArg (fun b => Ending.returned (Value.bool b)) (show ((j : Int) == (n : Int)) = true by rw [beq_iff_eq]; omega)
-->>
end Go.Proofs.Ytdpmjbhkmfjpfaa
