/-
  The document's own table of what ends when: Due. Conditions: those of the table.
-/
import Derived.Test.YtdpmjbhkmfjpfaaDoorEx17
namespace Go.Proofs.YtdpmjbhkmfjpfaaDoor
open Go.RowKit
set_option maxRecDepth 100000

--<< due
theorem cancelE_erase_at {R : List En} {x : En} (hu : uniq R) (hn : nextV R = some x) : cancelE R x.id = R.erase x := cancelE_erase hu (nextV_mem hn).1
theorem due_stop {R : List En} {x : En} {now : Int} (hn : nextV R = some x) (hl : now < x.at_) : dueL now R = ([], R) := by
  unfold dueL dueV
  rw [hn]
  dsimp only
  rw [if_pos hl]
theorem due_none {R : List En} {now : Int} (hn : nextV R = none) : dueL now R = ([], R) := by
  unfold dueL dueV
  rw [hn]
theorem due_go {R : List En} {x : En} {now : Int} (hu : uniq R) (hn : nextV R = some x) (hl : x.at_ ≤ now) : dueL now R = (x :: (dueL now (cancelE R x.id)).1, (dueL now (cancelE R x.id)).2) := by
  obtain ⟨t, h1, h2, h3⟩ := due_next hn hl
  rw [cancelE_erase_at hu hn, ← h2, ← h3, ← h1]
theorem Mv.grown {e : Nat} {w w5 w6 : World} {ob : Option Nat} (h : Mv e none w w5) (hg : w5.grownBy w6 ob) (ho : ∀ b, ob = some b → w.heap.size ≤ b) : Mv e none w w6 :=
  ⟨hg.os.trans h.os, hg.tape.trans h.tape, hg.output.trans h.output, Nat.le_trans h.size hg.size, fun i hi h1 _ => (hg.block i (Nat.lt_of_lt_of_le hi h.size) (fun e2 => by have := ho i e2.symm; omega)).trans (h.block i hi h1 (by simp))⟩
def lenOf : Value → Nat
  | .slice _ n _ => n
  | _ => 0
theorem EO.lenOf {w : World} {v : Value} {xs : List En} (h : EO w v xs) : lenOf v = xs.length := by
  obtain ⟨A, c, rfl, _⟩ := EnS.of_own h
  rfl
/-- So far. -/
structure Du (w wr : World) (e : Nat) (ob : Option Nat) (N now : Int) (ys : List En) (v : Value) (obr : Option Nat) (R D : List En) : Prop where
  own : EO wr v D
  ed : Ed wr e obr N R
  uniq : Go.Proofs.YtdpmjbhkmfjpfaaDoor.uniq R
  due : dueL now ys = (D ++ (dueL now R).1, (dueL now R).2)
  len : R.length + D.length = ys.length
  mv : Mv e none w wr
  fr : Fr ob obr w.heap.size
  low : ∀ b, v.ownBlock = some b → w.heap.size ≤ b ∧ obr ≠ some b
set_option maxHeartbeats 4000000 in
theorem due_E {w : World} {e : Nat} {ob : Option Nat} {N : Int} {ys : List En} (h : Ed w e ob N ys) (hu : uniq ys) (hbig : ys.length ≤ 100000) (now : Int) : Calls Tryd.prog 15 #[.pointer (some ⟨e, 0, none⟩), .int .u64 now] w fun ev w' =>
    ∃ v ob', ev = .returned v ∧ Ed w' e ob' N (dueL now ys).2 ∧ EO w' v (dueL now ys).1 ∧ Mv e none w w' ∧ Fr ob ob' w.heap.size := by
  have HH := Lib.hid (And.intro h hu)
  have hle := h.lt
  clear h hu
  go_enter Tryd.func15, Tryd.ntmps15
  go_wp2_with fail
  go_loopw [5] (fun v wr => ∃ v' obr R D, v' = v ∧ Du w wr e ob N now ys v' obr R D) (fun v _ => ys.length - lenOf v)
  case atStart => exact ⟨_, ob, ys, [], rfl, EO.nil _, HH.out.1, HH.out.2, by simp, by simp, Mv.refl _ _ _, Fr.refl _ _, fun b hb => by cases hb⟩
  case round =>
    obtain ⟨v, obr, R, D, rfl, hd⟩ := hrel
    have HD := Lib.hid hd
    have KN := Lib.hid (next_E hd.ed (by have := hd.len; omega))
    clear hd
    cases hn : nextV R with
    | none =>
      rw [hn] at KN
      unfold nextR at KN
      have HN := Lib.hid hn
      clear hn
      go_wp2_with (refine KN.out.mono ?_; rintro ev w2 ⟨rfl, b2⟩; have B2 := Lib.hid (b2.alloc b2.size (.cells #[.int .i64 0, .int .u64 0] 45)); clear b2)
      go_ret
      have hdue := HD.out.due
      rw [due_none HN.out, List.append_nil] at hdue
      rw [hdue]
      have hf := HD.out.ed.flat B2.out
      exact ⟨_, obr, rfl, hf.1, HD.out.own.kept fun b hb => B2.out.block b (HD.out.own.lt hb), HD.out.mv.trans hf.2.1 (.inl rfl), HD.out.fr⟩
    | some x =>
      obtain ⟨xi, xt⟩ := x
      rw [hn] at KN
      unfold nextR at KN
      have HN := Lib.hid hn
      clear hn
      by_cases hl : now < xt
      · have HL := Lib.hid (show now < (⟨xi, xt⟩ : En).at_ from hl)
        go_wp2_with (refine KN.out.mono ?_; rintro ev w2 ⟨rfl, b2⟩; have B2 := Lib.hid (b2.alloc b2.size (.cells #[.int .i64 xi, .int .u64 xt] 45)); clear b2)
        go_ret
        have hdue := HD.out.due
        rw [due_stop HN.out HL.out, List.append_nil] at hdue
        rw [hdue]
        have hf := HD.out.ed.flat B2.out
        exact ⟨_, obr, rfl, hf.1, HD.out.own.kept fun b hb => B2.out.block b (HD.out.own.lt hb), HD.out.mv.trans hf.2.1 (.inl rfl), HD.out.fr⟩
      · have HL := Lib.hid (show (⟨xi, xt⟩ : En).at_ ≤ now by dsimp only; omega)
        have hl2 : ¬ (xt > now) := by omega
        go_wp2_with (refine KN.out.mono ?_; rintro ev w2 ⟨rfl, b2⟩; have B2 := Lib.hid (b2.alloc b2.size (.cells #[.int .i64 xi, .int .u64 xt] 45)); have a2 : Hid (EnB (w2.alloc (.cells #[.int .i64 xi, .int .u64 xt] 45)) w2.heap.size xi xt) := heap_alloc_new w2 _; have L2 := Lib.hid b2.size; clear b2)
        obtain ⟨W3, hW3⟩ : ∃ W3, w2.alloc (.cells #[.int .i64 xi, .int .u64 xt] 45) = W3 := ⟨_, rfl⟩
        have hsz : w2.heap.size < W3.heap.size := by rw [← hW3]; simp
        rw [hW3] at a2 B2 ⊢
        clear hW3
        have KC := Lib.hid (cancel_E (HD.out.ed.later B2.out (Nat.le_refl _)) HD.out.uniq (by have := HD.out.len; omega) xi)
        refine KC.out.mono ?_
        rintro ev w4 ⟨rfl, ob4, e4, m4, f4⟩
        have hle2 : e < w2.heap.size := Nat.lt_of_lt_of_le HD.out.ed.lt L2.out
        have hne : w2.heap.size ≠ e := Nat.ne_of_gt hle2
        have a4 : EnB w4 w2.heap.size xi xt := (m4.block _ hsz hne (by simp)).trans a2.out
        have o4 : EO w4 v D := HD.out.own.kept fun b hb => (m4.block b (Nat.lt_of_lt_of_le (HD.out.own.lt hb) B2.out.size) (by have := (HD.out.low b hb).1; omega) (by simp)).trans (B2.out.block b (HD.out.own.lt hb))
        have f4' : ∀ b, v.ownBlock = some b → ob4 ≠ some b := fun b hb e2 => by
          rcases f4 b e2 with e3 | e3
          · exact (HD.out.low b hb).2 e3
          · have := HD.out.own.lt hb
            have := B2.out.size
            omega
        have H4 := Lib.hid (And.intro a4 (And.intro o4 (And.intro e4 (And.intro m4 (And.intro f4 f4')))))
        clear a4 o4 e4 m4 f4 f4' hsz hne
        have hDl : D.length ≤ 100000 := by have := HD.out.len; omega
        go_wp2_with (first
          | (refine wpList_load_enB rfl (.tmp 6) rfl rfl H4.out.1 ?_)
          | (refine wpList_one17 rfl (.tmp 27) rfl ⟨xi, xt⟩ rfl ?_; intro w5 o5 b5 s5; have H5 := Lib.hid (And.intro o5 b5); clear o5 b5 s5)
          | (at_builtin; refine wpList_cat_en rfl (.tmp 26) (.tmp 28) rfl v D rfl (H4.out.2.1.kept fun b hb => H5.out.2.block b (H4.out.2.1.lt hb)) _ 1 1 [⟨xi, xt⟩] rfl H5.out.1 (by omega) ?_; intro v6 w6 o6 g6 f6; have H6 := Lib.hid (And.intro o6 (And.intro g6 f6)); clear o6 g6 f6))
        have hx := (nextV_mem HN.out).1
        have hlen := cancelE_length HD.out.uniq (hasV_iff.2 ⟨_, hx, rfl⟩)
        have hdl := HD.out.len
        dsimp only at hlen
        have hm5 : Mv e none w w5 := ((HD.out.mv.trans (Mv.of_below B2.out) (.inl rfl)).trans H4.out.2.2.2.1 (.inl rfl)).trans (Mv.of_below H5.out.2) (.inl rfl)
        have hw4 : w.heap.size ≤ w4.heap.size := Nat.le_trans HD.out.mv.size (Nat.le_trans B2.out.size H4.out.2.2.2.1.size)
        refine ⟨⟨_, ob4, cancelE R xi, D ++ [⟨xi, xt⟩], rfl, H6.out.1, ?_, HD.out.uniq.cancel xi, ?_, ?_, hm5.grown H6.out.2.1 fun b hb => (HD.out.low b hb).1, ?_, ?_⟩, ?_⟩
        · exact (H4.out.2.2.1.later H5.out.2 (Nat.le_refl _)).keep (H6.out.2.1.block e (Nat.lt_of_lt_of_le H4.out.2.2.1.lt H5.out.2.size) (fun e2 => by have := (HD.out.low e e2.symm).1; omega)) fun b hb => H6.out.2.1.block b (Nat.lt_of_lt_of_le (H4.out.2.2.1.lto hb) H5.out.2.size) (fun e2 => H4.out.2.2.2.2.2 b e2.symm hb)
        · rw [HD.out.due, due_go HD.out.uniq HN.out HL.out, List.append_assoc]
          rfl
        · rw [List.length_append, List.length_singleton]
          omega
        · intro b hb
          rcases H4.out.2.2.2.2.1 b hb with e2 | e2
          · exact HD.out.fr b e2
          · exact .inr (Nat.le_trans HD.out.mv.size (Nat.le_trans B2.out.size e2))
        · intro b hb
          rcases H6.out.2.2 with e2 | e2
          · have hb2 := e2.symm.trans hb
            exact ⟨(HD.out.low b hb2).1, H4.out.2.2.2.2.2 b hb2⟩
          · have hb2 := Option.some.inj (e2.symm.trans hb)
            subst hb2
            exact ⟨Nat.le_trans hw4 H5.out.2.size, fun e3 => by have := H4.out.2.2.1.lto e3; have := H5.out.2.size; omega⟩
        · rw [H6.out.1.lenOf, HD.out.own.lenOf, List.length_append, List.length_singleton]
          omega
-->>
end Go.Proofs.YtdpmjbhkmfjpfaaDoor
