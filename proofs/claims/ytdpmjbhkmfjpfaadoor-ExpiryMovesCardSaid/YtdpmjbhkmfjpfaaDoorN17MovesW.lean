/-
  ExpiryMoves: moved it ends when it was moved to, and not ahead of it; cancelled it is not due. Conditions: those of the slices; errors.errorType holds the handle of the type error.
-/
import Derived.Test.YtdpmjbhkmfjpfaaDoorUo17
import Derived.Test.YtdpmjbhkmfjpfaaDoorKitU
import Derived.IntWalk
namespace Go.Proofs.YtdpmjbhkmfjpfaaDoor
open Go.RowKit
set_option maxRecDepth 100000

def Sm (w0 w : World) (g : Nat) (L : List En) (be ce : Nat) (f : List Int) : Prop := ∃ ob, QL w g ob 100 L ∧ Lo w0.heap.size g ob ∧ Below w0.heap.size w0 w ∧ UO w be ce f ∧ be ≠ g ∧ ob ≠ some be ∧ w0.heap.size ≤ be
theorem Sm.later {w0 w w' : World} {g be ce : Nat} {L : List En} {f : List Int} (h : Sm w0 w g L be ce f) (hb : Below w.heap.size w w') : Sm w0 w' g L be ce f := by
  obtain ⟨ob, h1, h2, h3, h4, h5, h6, h7⟩ := h
  exact ⟨ob, h1.later hb (Nat.le_refl _), h2, h3.trans (hb.mono h3.size), h4.kept (hb.block be h4.lt), h5, h6, h7⟩
theorem Sm.below {w0 w : World} {g be ce : Nat} {L : List En} {f : List Int} (h : Sm w0 w g L be ce f) : Below w0.heap.size w0 w := by
  obtain ⟨_, _, _, h3, _⟩ := h
  exact h3
theorem Sm.row {w0 w : World} {g be ce : Nat} {L : List En} {f : List Int} (h : Sm w0 w g L be ce f) : UO w be ce f := by
  obtain ⟨_, _, _, _, h4, _⟩ := h
  exact h4
theorem Sm.op {w0 w w' : World} {g be ce : Nat} {L' : List En} {f : List Int} {ob ob' : Option Nat} (h2 : Lo w0.heap.size g ob) (h3 : Below w0.heap.size w0 w) (h4 : UO w be ce f) (h5 : be ≠ g) (h6 : ob ≠ some be) (h7 : w0.heap.size ≤ be) (hq : QL w' g ob' 100 L') (hm : Mv g ob w w') (hf : Fresh ob ob' w.heap.size) : Sm w0 w' g L' be ce f :=
  ⟨ob', hq, h2.fresh hf h3.size, hm.lo h3 h2 h3.size, h4.kept (hm.block be h4.lt h5 (fun e => h6 e.symm)), h5, by
    rcases hf with e | ⟨b, e, hb⟩
    · rw [e]; exact h6
    · rw [e]
      intro e2
      have := Option.some.inj e2
      have := h4.lt
      omega, h7⟩
theorem Sm.push {w0 w : World} {g be ce : Nat} {L : List En} {f : List Int} (h : Sm w0 w g L be ce f) (hbig : L.length ≤ 100000) (id t : Int) :
    Calls Tryd.prog 16 #[.pointer (some ⟨g, 0, none⟩), .int .i64 id, .int .u64 t] w fun e w' => e = .returned (resV id (pushE 100 L id)) ∧ Sm w0 w' g (pushL 100 L id t) be ce f := by
  obtain ⟨ob, h1, h2, h3, h4, h5, h6, h7⟩ := h
  exact (push_L h1 hbig id t).mono fun _ w' ⟨e1, ob', e2, e3, e4⟩ => ⟨e1, Sm.op h2 h3 h4 h5 h6 h7 e2 e3 e4⟩
theorem Sm.move {w0 w : World} {g be ce : Nat} {L : List En} {f : List Int} (h : Sm w0 w g L be ce f) (hbig : L.length ≤ 100000) (id t : Int) :
    Calls Tryd.prog 9 #[.pointer (some ⟨g, 0, none⟩), .int .i64 id, .int .u64 t] w fun e w' => e = .returned (resV id (hasC L id)) ∧ Sm w0 w' g (moveE L id t) be ce f := by
  obtain ⟨ob, h1, h2, h3, h4, h5, h6, h7⟩ := h
  exact (move_L h1 hbig id t).mono fun _ w' ⟨e1, ob', e2, e3, e4⟩ => ⟨e1, Sm.op h2 h3 h4 h5 h6 h7 e2 e3 e4⟩
theorem Sm.cancel {w0 w : World} {g be ce : Nat} {L : List En} {f : List Int} (h : Sm w0 w g L be ce f) (id : Int) :
    Calls Tryd.prog 11 #[.pointer (some ⟨g, 0, none⟩), .int .i64 id] w fun e w' => e = .returned (resV id (hasC L id)) ∧ Sm w0 w' g (cancelE L id) be ce f := by
  obtain ⟨ob, h1, h2, h3, h4, h5, h6, h7⟩ := h
  exact (cancel_L h1 id).mono fun _ w' ⟨e1, e2, e3⟩ => ⟨e1, Sm.op h2 h3 h4 h5 h6 h7 e2 e3 (Fresh.refl _ _)⟩
theorem Sm.due {w0 w : World} {g be ce : Nat} {L : List En} {f : List Int} (h : Sm w0 w g L be ce f) (hbig : L.length ≤ 100000) (now : Int) :
    Calls Tryd.prog 14 #[.pointer (some ⟨g, 0, none⟩), .int .u64 now] w fun e w' => ∃ v, e = .returned v ∧ EO w' v (dueL now L).1 ∧ UO w' be ce f ∧ Below w0.heap.size w0 w' := by
  obtain ⟨ob, h1, h2, h3, h4, h5, h6, h7⟩ := h
  exact (due_L h1 (by omega) now).mono fun _ w' ⟨v, e1, _, e3, _, e5⟩ => ⟨v, e1, e3, h4.kept (e5.block be h4.lt h5 (fun e => h6 e.symm)), e5.lo h3 h2 h3.size⟩
theorem Sm.set {w0 w : World} {g be ce : Nat} {L : List En} {f : List Int} (h : Sm w0 w g L be ce f) (j : Nat) (t : Int) : Sm w0 (w.setCell ⟨be, j, none⟩ (.int .u64 t)) g L be ce (f.set j t) := by
  obtain ⟨ob, h1, h2, h3, h4, h5, h6, h7⟩ := h
  exact ⟨ob, h1.keep (Below.heap_setCell w ⟨be, j, none⟩ _ g (fun e => h5 e.symm)) (fun b hb => Below.heap_setCell w ⟨be, j, none⟩ _ b (fun e => h6 (by have e2 : b = be := e; rw [← e2]; exact hb))), h2, h3.setCell (p := ⟨be, j, none⟩) h7 _, h4.set j t, h5, h6, h7⟩
/-- What is gone; when it ends. -/
def gnB (us : List Bool) (j : Nat) : Bool := us.getD j false
def enT (l t2 : List Int) (j : Nat) : Int := if j < t2.length then t2.getD j 0 else l.getD j 0
def hF (l t2 : List Int) (us : List Bool) (i j : Nat) : Option Int := if j < i then (if gnB us j then none else some (enT l t2 j)) else some (l.getD j 0)
def fF (l t2 : List Int) (K i : Nat) : List Int := (List.range K).map fun j => if j < i then enT l t2 j else l.getD j 0
def lfN (us : List Bool) (i : Nat) : Nat := ((List.range i).filter fun j => !gnB us j).length
theorem fF_length (l t2 : List Int) (K i : Nat) : (fF l t2 K i).length = K := by simp [fF]
theorem fF_get (l t2 : List Int) {K i j : Nat} (h : j < K) : (fF l t2 K i).getD j 0 = if j < i then enT l t2 j else l.getD j 0 := by
  unfold fF
  rw [List.getD_eq_getElem?_getD, List.getElem?_map, List.getElem?_range h]
  rfl
theorem fF_set (l t2 : List Int) {K i : Nat} : (fF l t2 K i).set i (enT l t2 i) = fF l t2 K (i + 1) := by
  apply List.ext_getElem?
  intro j
  rw [List.getElem?_set]
  unfold fF
  rw [List.length_map, List.length_range, List.getElem?_map, List.getElem?_map]
  by_cases hj : i = j
  · subst hj
    rw [if_pos rfl]
    by_cases hk : i < K
    · rw [if_pos hk, List.getElem?_range hk]
      simp
    · rw [if_neg hk, List.getElem?_eq_none (by simp; omega)]; rfl
  · rw [if_neg hj]
    by_cases hk : j < K
    · rw [List.getElem?_range hk]
      simp only [Option.map_some]
      have e : (j < i + 1) = (j < i) := propext ⟨fun h => by omega, fun h => by omega⟩
      simp only [e]
    · rw [List.getElem?_eq_none (by simp; omega)]; rfl
theorem fF_same (l t2 : List Int) {K i : Nat} (h : t2.length ≤ i) : fF l t2 K i = fF l t2 K (i + 1) := by
  unfold fF
  refine List.map_congr_left fun j _ => ?_
  by_cases hj : j = i
  · subst hj
    rw [if_neg (Nat.lt_irrefl _), if_pos (by omega)]
    unfold enT
    rw [if_neg (by omega)]
  · have e : (j < i + 1) = (j < i) := propext ⟨fun h => by omega, fun h => by omega⟩
    simp only [e]
theorem fF_zero (l t2 : List Int) {K : Nat} (h : K ≤ l.length) : l.take K = fF l t2 K 0 := by
  apply List.ext_getElem?
  intro j
  unfold fF
  rw [List.getElem?_map, List.getElem?_take]
  by_cases hj : j < K
  · rw [if_pos hj, List.getElem?_range hj]
    simp [List.getD_eq_getElem?_getD, List.getElem?_eq_getElem (show j < l.length by omega)]
  · rw [if_neg hj, List.getElem?_eq_none (by simp; omega)]; rfl
/-- The table with one id's time told. -/
def h1F (l t2 : List Int) (us : List Bool) (i j : Nat) : Option Int := if j = i then some (enT l t2 i) else hF l t2 us i j
theorem m_zero (l t2 : List Int) (us : List Bool) (K : Nat) : ents l K = Mh K (hF l t2 us 0) := by
  induction K with
  | zero => rfl
  | succ K ih =>
    rw [ents_succ, Mh.succ, ih]
    rfl
theorem m_move (l t2 : List Int) (us : List Bool) (K i : Nat) : moveE (Mh K (hF l t2 us i)) i (enT l t2 i) = Mh K (h1F l t2 us i) := by
  rw [Mh.move]
  refine Mh.congr fun j _ => ?_
  unfold h1F
  by_cases hj : j = i
  · subst hj
    rw [if_pos rfl, if_pos rfl]
    unfold hF
    rw [if_neg (Nat.lt_irrefl _)]
    rfl
  · rw [if_neg hj, if_neg hj]
theorem m_stay (l t2 : List Int) (us : List Bool) (K i : Nat) (h : t2.length ≤ i) : Mh K (hF l t2 us i) = Mh K (h1F l t2 us i) := by
  refine Mh.congr fun j _ => ?_
  unfold h1F
  by_cases hj : j = i
  · subst hj
    rw [if_pos rfl]
    unfold hF enT
    rw [if_neg (Nat.lt_irrefl _), if_neg (by omega)]
  · rw [if_neg hj]
theorem m_gone (l t2 : List Int) (us : List Bool) (K i : Nat) (h : gnB us i = true) : cancelE (Mh K (h1F l t2 us i)) i = Mh K (hF l t2 us (i + 1)) := by
  rw [Mh.cancel]
  refine Mh.congr fun j _ => ?_
  by_cases hj : j = i
  · subst hj
    rw [if_pos rfl]
    unfold hF
    rw [if_pos (by omega), if_pos h]
  · rw [if_neg hj]
    unfold h1F hF
    rw [if_neg hj]
    have e : (j < i + 1) = (j < i) := propext ⟨fun h => by omega, fun h => by omega⟩
    simp only [e]
theorem m_left (l t2 : List Int) (us : List Bool) (K i : Nat) (h : gnB us i = false) : Mh K (h1F l t2 us i) = Mh K (hF l t2 us (i + 1)) := by
  refine Mh.congr fun j _ => ?_
  unfold h1F hF
  by_cases hj : j = i
  · subst hj
    rw [if_pos rfl, if_pos (by omega), h]
    rfl
  · rw [if_neg hj]
    have e : (j < i + 1) = (j < i) := propext ⟨fun h => by omega, fun h => by omega⟩
    simp only [e]
theorem m_has (l t2 : List Int) (us : List Bool) {K i : Nat} (h : i < K) : hasV (Mh K (hF l t2 us i)) i = true ∧ hasV (Mh K (h1F l t2 us i)) i = true := by
  rw [Mh.has, Mh.has]
  refine ⟨decide_eq_true ⟨h, ?_⟩, decide_eq_true ⟨h, ?_⟩⟩
  · unfold hF
    rw [if_neg (Nat.lt_irrefl _)]
    rfl
  · unfold h1F
    rw [if_pos rfl]
    rfl
theorem Mh.length (K : Nat) (h : Nat → Option Int) : (Mh K h).length = ((List.range K).filter fun j => (h j).isSome).length := by
  induction K with
  | zero => rfl
  | succ K ih =>
    rw [Mh.succ, List.length_append, ih, List.range_succ, List.filter_append, List.length_append]
    cases hk : h K <;> simp [hk]
theorem Mh.length_le (K : Nat) (h : Nat → Option Int) : (Mh K h).length ≤ K := by
  rw [Mh.length]
  have := List.length_filter_le (fun j => (h j).isSome) (List.range K)
  rw [List.length_range] at this
  exact this
theorem lfN_succ (us : List Bool) (i : Nat) : lfN us (i + 1) = if gnB us i then lfN us i else lfN us i + 1 := by
  unfold lfN
  rw [List.range_succ, List.filter_append, List.length_append]
  cases hg : gnB us i <;> simp [hg]
theorem lfN_le (us : List Bool) (i : Nat) : lfN us i ≤ i := by
  unfold lfN
  have := List.length_filter_le (fun j => !gnB us j) (List.range i)
  rw [List.length_range] at this
  exact this
theorem m_end (l t2 : List Int) (us : List Bool) (K : Nat) : (Mh K (hF l t2 us K)).length = lfN us K := by
  rw [Mh.length]
  unfold lfN
  congr 1
  refine List.filter_congr fun j hj => ?_
  unfold hF
  rw [if_pos (List.mem_range.1 hj)]
  cases gnB us j <;> rfl
theorem m_at_end {l t2 : List Int} {us : List Bool} {K : Nat} {e : En} (h : e ∈ Mh K (hF l t2 us K)) : ∃ m : Nat, m < K ∧ e = ⟨(m : Int), enT l t2 m⟩ ∧ gnB us m = false := by
  obtain ⟨m, hm, h1, h2⟩ := Mh.mem.1 h
  unfold hF at h1
  rw [if_pos hm] at h1
  cases hg : gnB us m with
  | true => rw [hg] at h1; cases h1
  | false =>
    rw [hg] at h1
    refine ⟨m, hm, ?_, hg⟩
    obtain ⟨i, t⟩ := e
    dsimp only at h1 h2
    rw [h2, Option.some.inj h1]
theorem Gs.bool {w : World} {A : Option Addr} {n c : Nat} {us : List Bool} (h : Gs w A n c (uv us)) {i : Nat} (hi : i < n) : ∃ b off, A = some ⟨b, off, none⟩ ∧ w.cell? ⟨b, off + i, none⟩ = some (.bool (gnB us i)) := by
  have hl := h.len
  unfold uv at hl
  rw [List.length_map] at hl
  refine h.get (k := i) ?_
  unfold uv gnB
  rw [List.getElem?_map, List.getElem?_eq_getElem (by omega), List.getD_eq_getElem?_getD, List.getElem?_eq_getElem (by omega)]
  rfl
theorem gnB_past {us : List Bool} {i : Nat} (h : us.length ≤ i) : gnB us i = false := by
  unfold gnB
  rw [List.getD_eq_getElem?_getD, List.getElem?_eq_none h]
  rfl
theorem infoU : (Tryd.prog.info? 30).map (fun i => (i.zero, i.size, i.bytes)) = some (some (.int .u64 0), 1, 8) := by kernel_rfl
theorem UO.of_append {w' : World} {v' : Value} {f : List Int} {n K : Nat} (h : w'.ownsRow 0 30 1 v' (0 + K) ([] ++ uvC f)) (hf : f.length = K) (hK : 0 < K) (hb : v'.ownBlock = none ∨ v'.ownBlock = some n) : ∃ c, v' = .slice (some ⟨n, 0, none⟩) K c ∧ UO w' n c f := by
  rw [Nat.zero_add, List.nil_append] at h
  subst hf
  rcases h.2 with ⟨_, e⟩ | ⟨g, cap, cur, rfl, h3⟩
  · omega
  · rcases hb with e | e
    · cases e
    · cases e
      exact ⟨cap, rfl, h⟩
theorem wpList_minI {P : Program} {ops : Array Oper} {rest : List Oper} {o : Oper} {a : Act} {w : World} {Q : Exit → Act → World → Prop} (hgd : o.guard = none) (x y : Operand) (t : TypeId) (ho : o.op = .call { callee := .builtin .min, args := #[x, y], argTypes := #[t, t] }) (p q : Int) (hx : a.eval x = .int .i64 p) (hy : a.eval y = .int .i64 q)
    (h : wpList P ops Q rest (a.put o.dst (.int .i64 (min p q))) w) : wpList P ops Q (o :: rest) a w :=
  wpList_plain hgd fun _ hK => by
    have e : min p q = if q < p then q else p := by
      by_cases hl : q < p
      · rw [if_pos hl]; exact Int.min_eq_right (by omega)
      · rw [if_neg hl]; exact Int.min_eq_left (by omega)
    rw [e] at h
    unfold Oper.wp
    simp [execOp, ho, resolve, invoke, builtin, hx, hy, Result.andThen]
    exact hK _ _ h
theorem Us.src {w : World} {b o n c : Nat} {l : List Int} (h : Us w (some ⟨b, o, none⟩) n c l) {K : Nat} (hK : K ≤ n) : ∀ j u, (uvC (l.take K))[j]? = some u → w.cell? ((⟨b, o, none⟩ : Addr).add j) = some u := fun j u hj => by
  have hjl := (List.getElem?_eq_some_iff.1 hj).1
  unfold uvC at hjl hj
  rw [List.length_map, List.length_take] at hjl
  obtain ⟨b', o', e, h1⟩ := h.here j (by omega)
  cases e
  rw [add_plain, h1]
  have hl := h.len
  rw [List.getElem?_map, List.getElem?_take, if_pos (by omega), List.getElem?_eq_getElem (by omega)] at hj
  rw [List.getD_eq_getElem?_getD, List.getElem?_eq_getElem (by omega)]
  exact hj
--<< walk
set_option maxHeartbeats 8000000 in
theorem expiryMoves_some {b0 o0 n c : Nat} {l : List Int} {A1 : Option Addr} {n1 c1 : Nat} {t2 : List Int} {A2 : Option Addr} {n2 c2 : Nat} {us : List Bool} {w : World} (hn : 0 < n) (hu : Us w (some ⟨b0, o0, none⟩) n c l) (hu1 : Us w A1 n1 c1 t2) (hu2 : Gs w A2 n2 c2 (uv us)) (hg : Handle w) :
    Calls Tryd.prog 5 #[.slice (some ⟨b0, o0, none⟩) n c, .slice A1 n1 c1, .slice A2 n2 c2] w fun e w' => e = .returned (.bool true) ∧ Below w.heap.size w w' := by
  have hcap := hu.cap
  have hmax := hu.max
  unfold maxLen at hmax
  have hl1 := hu1.len
  have hl2 := hu2.len
  unfold uv at hl2
  rw [List.length_map] at hl2
  have hll := hu.len
  obtain ⟨i0, f1, f2, f3, f4⟩ := info_of17 infoU
  have K1 := Lib.hid (new_L 100 w)
  rw [show heldV 100 = 100 by decide] at K1
  have K3 := Lib.hid fun w1 => awake17 w1
  obtain ⟨K, hK⟩ : ∃ K, K = min n 60 := ⟨_, rfl⟩
  have hKn : K ≤ n := by omega
  have hK60 : K ≤ 60 := by omega
  have hK0 : 0 < K := by omega
  have hmin : min (n : Int) 60 = (K : Int) := by omega
  have HM := Lib.hid hmin
  have hlt0 : (l.take K).length = K := by rw [List.length_take]; omega
  have hlt := Lib.hid hlt0
  clear hlt0
  have hfz : Hid (l.take K = fF l t2 K 0) := fF_zero l t2 (by omega)
  have HI := Lib.hid (And.intro f1 (And.intro f2 (And.intro f3 f4)))
  have HU := Lib.hid (And.intro hu (And.intro hu1 hu2))
  have HG := Lib.hid hg
  clear hu hu1 hu2 hmin hK hg f1 f2 f3 f4
  go_enter Tryd.func5, Tryd.ntmps5
  go_wp2_with fail
  refine K1.out.mono ?_
  rintro e w1 ⟨rfl, h1, b1⟩
  obtain ⟨g, hgg⟩ : ∃ g, g = w.heap.size := ⟨_, rfl⟩
  rw [← hgg] at h1 ⊢
  have H1 := Lib.hid (And.intro h1 (And.intro b1 hgg))
  clear h1 b1 hgg K1
  go_wp2_with fail
  refine (K3.out w1).mono ?_
  rintro e w3 ⟨rfl, b3⟩
  have H3 := Lib.hid (And.intro (H1.out.1.later b3 (Nat.le_refl _)) (H1.out.2.1.trans (b3.mono H1.out.2.1.size)))
  clear b3 K3
  have hKi : (K : Int) ≤ (n : Int) := by omega
  have hKc : K ≤ c := by omega
  have HS := Lib.hid (HU.out.1.later H3.out.2 (Nat.le_refl _))
  go_wp2_with (first
    | (refine wpList_minI rfl (.tmp 24) (.const (.int .i64 60)) 3 rfl (n : Int) 60 rfl rfl ?_; rw [HM.out])
    | (at_builtin; refine wpList_append_own_at _ rfl (.const (.slice none 0 0)) (.tmp 28) 56 rfl 0 30 i0 _ 1 8 Tryd.underlying56 HI.out.1 HI.out.2.1 HI.out.2.2.1 HI.out.2.2.2 (by kernel_rfl) (by decide) _ 0 [] rfl (World.ownsRow_nil _ _ _ _) ⟨b0, o0, none⟩ K c (uvC (l.take K)) rfl (by unfold uvC; rw [List.length_map, hlt.out]; omega) (HS.out.src hKn) (uvC_one _) (by unfold maxLen; omega) (by omega) (Nat.zero_le _) ?_; intro v' w4 hown hg4 hnil hat))
  obtain ⟨ce, rfl, hUO⟩ := UO.of_append (n := w3.heap.size) hown hlt.out hK0 hat
  have b34 : Below w3.heap.size w3 w4 := ⟨hg4.os, hg4.tape, hg4.output, hg4.size, fun k hk => hg4.block k hk (by rintro ⟨⟩)⟩
  obtain ⟨be, hbe⟩ : ∃ be, be = w3.heap.size := ⟨_, rfl⟩
  rw [← hbe] at hUO ⊢
  have hSm : Sm w w4 g [] be ce (fF l t2 K 0) := ⟨none, H3.out.1.later b34 (Nat.le_refl _), ⟨H1.out.2.2 ▸ Nat.le_refl _, fun b hb => by cases hb⟩, H3.out.2.trans (b34.mono H3.out.2.size), hfz.out ▸ hUO, fun e => by have := H3.out.1.lt; omega, (by simp), hbe ▸ H3.out.2.size⟩
  have HS4 := Lib.hid hSm
  have HSB := Lib.hid hSm.below
  clear hSm hUO b34 hown hg4 hnil hat hbe HS
  go_loopw [10] (fun i wr => ∃ k : Nat, k ≤ K ∧ i = .int .i64 k ∧ Sm w wr g (ents l k) be ce (fF l t2 K 0)) (fun i _ => K - (intOf i).toNat)
  case atStart => exact ⟨0, Nat.zero_le _, rfl, HS4.out⟩
  case round =>
    obtain ⟨k, hk, rfl, hst⟩ := hrel
    have HS := Lib.hid hst
    clear hst HS4 HSB
    by_cases hkn : k < K
    · obtain ⟨b', o', e', r1⟩ := (HU.out.1.later HS.out.below (Nat.le_refl _)).here k (by omega)
      cases e'
      have hpe := ents_push (l := l) (k := k) (cap := 100) (by omega)
      have hlen := ents_length l k
      have KP := Lib.hid (HS.out.push (by omega) (k : Int) (l.getD k 0))
      rw [hpe.2] at KP
      obtain ⟨t, ht⟩ : ∃ t, t = l.getD k 0 := ⟨_, rfl⟩
      rw [← ht] at r1 KP
      have hkn2 : (k : Int) < (n : Int) := by omega
      clear hpe hlen ht
      go_wp2_with (refine KP.out.mono ?_; rintro e w5 ⟨rfl, s5⟩)
      refine ⟨⟨k + 1, hkn, by go_num, s5⟩, by simp [intOf]; omega⟩
    · obtain rfl : k = K := by omega
      have hst2 := HS.out
      rw [m_zero l t2 us k] at hst2
      have HS2 := Lib.hid hst2
      have hkk : ¬ ((k : Int) < (k : Int)) := by omega
      clear hst2 hkn hk
      go_wp2_with fail
      go_loopw [11, 12] (fun d i wr => ∃ j : Nat, j ≤ k ∧ d = .int .i64 (lfN us j) ∧ i = .int .i64 j ∧ Sm w wr g (Mh k (hF l t2 us j)) be ce (fF l t2 k j)) (fun _ i _ => k - (intOf i).toNat)
      case atStart => exact ⟨0, Nat.zero_le _, rfl, rfl, HS2.out⟩
      case round =>
        obtain ⟨j, hj, rfl, rfl, hst⟩ := hrel
        have HS := Lib.hid hst
        clear hst HS2
        by_cases hjk : j < k
        · have hjk2 : (j : Int) < (k : Int) := by omega
          obtain ⟨lf, hlf⟩ : ∃ lf, lf = lfN us j := ⟨_, rfl⟩
          have hlfs := lfN_succ us j
          have hlfl := lfN_le us j
          rw [← hlf] at hlfs hlfl ⊢
          have HLS := Lib.hid hlfs
          clear hlf hlfs
          have KB := Lib.hid fun (w1 : World) => help_bare 20 w1
          by_cases hm : j < t2.length
          · obtain ⟨b1, o1, rfl, r1⟩ := (HU.out.2.1.later HS.out.below (Nat.le_refl _)).here j (by omega)
            have hen : enT l t2 j = t2.getD j 0 := if_pos hm
            rw [← hen] at r1
            obtain ⟨t, ht⟩ : ∃ t, t = enT l t2 j := ⟨_, rfl⟩
            rw [← ht] at r1
            obtain ⟨c1, c2⟩ := HS.out.row.at_ (j := j) (by rw [fF_length]; exact hjk)
            have hset := HS.out.set j t
            have hfs := fF_set l t2 (K := k) (i := j)
            rw [← ht] at hfs
            rw [hfs] at hset
            obtain ⟨b1', o1', e', r2⟩ := (HU.out.2.1.later hset.below (Nat.le_refl _)).here j (by omega)
            cases e'
            rw [← hen, ← ht] at r2
            have KM := hset.move (Nat.le_trans (Mh.length_le _ _) (by omega)) (j : Int) t
            have hhc : hasC (Mh k (hF l t2 us j)) j = 0 := by unfold hasC; rw [(m_has l t2 us hjk).1]; rfl
            have hmm := m_move l t2 us k j
            rw [← ht] at hmm
            rw [hhc, hmm] at KM
            unfold resV at KM
            rw [if_pos rfl] at KM
            have KM := Lib.hid KM
            have hm2 : (j : Int) < (n1 : Int) := by omega
            clear hset hfs hhc hmm hen ht
            go_wp2_with fail
            refine KM.out.mono ?_
            rintro e w5 ⟨rfl, s5⟩
            have HS5 := Lib.hid s5
            clear s5 c1 c2 r1 r2 KM
            by_cases hgn : j < n2
            · obtain ⟨b2, o2, rfl, r3⟩ := (HU.out.2.2.later HS5.out.below (Nat.le_refl _)).bool hgn
              have hgn2 : (j : Int) < (n2 : Int) := by omega
              cases hg2 : gnB us j with
              | false =>
                rw [hg2] at r3 HLS
                have hE := HS5.out
                rw [m_left l t2 us k j hg2] at hE
                have HE := Lib.hid hE
                clear hE
                go_wp2_with fail
                refine ⟨⟨j + 1, hjk, by rw [HLS.out]; go_num, by go_num, HE.out⟩, by simp [intOf]; omega⟩
              | true =>
                rw [hg2] at r3 HLS
                have KC := HS5.out.cancel (j : Int)
                have hhc : hasC (Mh k (h1F l t2 us j)) j = 0 := by unfold hasC; rw [(m_has l t2 us hjk).2]; rfl
                rw [hhc, m_gone l t2 us k j hg2] at KC
                unfold resV at KC
                rw [if_pos rfl] at KC
                have KC := Lib.hid KC
                have hno : Hid (hasV (Mh k (hF l t2 us (j + 1))) j = false) := by
                  rw [Mh.has]
                  refine decide_eq_false fun h => ?_
                  have h2 := h.2
                  unfold hF at h2
                  rw [if_pos (by omega), if_pos hg2] at h2
                  cases h2
                have hc20 : Hid (hasC (Mh k (hF l t2 us (j + 1))) j = 20) := by unfold hasC; rw [hno.out]; rfl
                clear hhc
                go_wp2_with fail
                refine KC.out.mono ?_
                rintro e w6 ⟨rfl, s6⟩
                have K6 := s6.cancel (j : Int)
                rw [hc20.out, cancel_no hno.out] at K6
                have K6 := Lib.hid K6
                clear s6 r3 KC
                go_wp2_with fail
                refine K6.out.mono ?_
                rintro e w7 ⟨rfl, s7⟩
                have HS7 := Lib.hid s7
                clear s7 K6
                go_wp2_with fail
                refine (KB.out _).mono ?_
                rintro e w8 ⟨rfl, b8⟩
                have HS8 := Lib.hid (HS7.out.later b8)
                have KI := Lib.hid (is_res (HG.out.later HS8.out.below (Nat.le_refl _)) (j : Int) 20)
                clear b8 HS7
                go_wp2_with fail
                refine KI.out.mono ?_
                rintro e w9 ⟨rfl, b9⟩
                have s9 := HS8.out.later b9
                have K9 := s9.move (Nat.le_trans (Mh.length_le _ _) (by omega)) (j : Int) 5
                rw [hc20.out, move_no hno.out] at K9
                have K9 := Lib.hid K9
                clear s9 b9 KI HS8
                go_wp2_with fail
                refine K9.out.mono ?_
                rintro e w10 ⟨rfl, s10⟩
                have HS10 := Lib.hid s10
                clear s10 K9
                go_wp2_with fail
                refine (KB.out _).mono ?_
                rintro e w11 ⟨rfl, b11⟩
                have HS11 := Lib.hid (HS10.out.later b11)
                have KI := Lib.hid (is_res (HG.out.later HS11.out.below (Nat.le_refl _)) (j : Int) 20)
                clear b11 HS10
                go_wp2_with fail
                refine KI.out.mono ?_
                rintro e w12 ⟨rfl, b12⟩
                have HE := Lib.hid (HS11.out.later b12)
                clear b12
                go_wp2_with fail
                refine ⟨⟨j + 1, hjk, by rw [HLS.out]; rfl, by go_num, HE.out⟩, by simp [intOf]; omega⟩
            · have hg2 : gnB us j = false := gnB_past (by omega)
              have hgn2 : ¬ ((j : Int) < (n2 : Int)) := by omega
              rw [hg2] at HLS
              have hE := HS5.out
              rw [m_left l t2 us k j hg2] at hE
              have HE := Lib.hid hE
              clear hE
              go_wp2_with fail
              refine ⟨⟨j + 1, hjk, by rw [HLS.out]; go_num, by go_num, HE.out⟩, by simp [intOf]; omega⟩
          · have hs5 := HS.out
            rw [m_stay l t2 us k j (by omega), fF_same l t2 (K := k) (i := j) (by omega)] at hs5
            have HS5 := Lib.hid hs5
            have hm2 : ¬ ((j : Int) < (n1 : Int)) := by omega
            clear hs5
            by_cases hgn : j < n2
            · obtain ⟨b2, o2, rfl, r3⟩ := (HU.out.2.2.later HS5.out.below (Nat.le_refl _)).bool hgn
              have hgn2 : (j : Int) < (n2 : Int) := by omega
              cases hg2 : gnB us j with
              | false =>
                rw [hg2] at r3 HLS
                have hE := HS5.out
                rw [m_left l t2 us k j hg2] at hE
                have HE := Lib.hid hE
                clear hE
                go_wp2_with fail
                refine ⟨⟨j + 1, hjk, by rw [HLS.out]; go_num, by go_num, HE.out⟩, by simp [intOf]; omega⟩
              | true =>
                rw [hg2] at r3 HLS
                have KC := HS5.out.cancel (j : Int)
                have hhc : hasC (Mh k (h1F l t2 us j)) j = 0 := by unfold hasC; rw [(m_has l t2 us hjk).2]; rfl
                rw [hhc, m_gone l t2 us k j hg2] at KC
                unfold resV at KC
                rw [if_pos rfl] at KC
                have KC := Lib.hid KC
                have hno : Hid (hasV (Mh k (hF l t2 us (j + 1))) j = false) := by
                  rw [Mh.has]
                  refine decide_eq_false fun h => ?_
                  have h2 := h.2
                  unfold hF at h2
                  rw [if_pos (by omega), if_pos hg2] at h2
                  cases h2
                have hc20 : Hid (hasC (Mh k (hF l t2 us (j + 1))) j = 20) := by unfold hasC; rw [hno.out]; rfl
                clear hhc
                go_wp2_with fail
                refine KC.out.mono ?_
                rintro e w6 ⟨rfl, s6⟩
                have K6 := s6.cancel (j : Int)
                rw [hc20.out, cancel_no hno.out] at K6
                have K6 := Lib.hid K6
                clear s6 r3 KC
                go_wp2_with fail
                refine K6.out.mono ?_
                rintro e w7 ⟨rfl, s7⟩
                have HS7 := Lib.hid s7
                clear s7 K6
                go_wp2_with fail
                refine (KB.out _).mono ?_
                rintro e w8 ⟨rfl, b8⟩
                have HS8 := Lib.hid (HS7.out.later b8)
                have KI := Lib.hid (is_res (HG.out.later HS8.out.below (Nat.le_refl _)) (j : Int) 20)
                clear b8 HS7
                go_wp2_with fail
                refine KI.out.mono ?_
                rintro e w9 ⟨rfl, b9⟩
                have s9 := HS8.out.later b9
                have K9 := s9.move (Nat.le_trans (Mh.length_le _ _) (by omega)) (j : Int) 5
                rw [hc20.out, move_no hno.out] at K9
                have K9 := Lib.hid K9
                clear s9 b9 KI HS8
                go_wp2_with fail
                refine K9.out.mono ?_
                rintro e w10 ⟨rfl, s10⟩
                have HS10 := Lib.hid s10
                clear s10 K9
                go_wp2_with fail
                refine (KB.out _).mono ?_
                rintro e w11 ⟨rfl, b11⟩
                have HS11 := Lib.hid (HS10.out.later b11)
                have KI := Lib.hid (is_res (HG.out.later HS11.out.below (Nat.le_refl _)) (j : Int) 20)
                clear b11 HS10
                go_wp2_with fail
                refine KI.out.mono ?_
                rintro e w12 ⟨rfl, b12⟩
                have HE := Lib.hid (HS11.out.later b12)
                clear b12
                go_wp2_with fail
                refine ⟨⟨j + 1, hjk, by rw [HLS.out]; rfl, by go_num, HE.out⟩, by simp [intOf]; omega⟩
            · have hg2 : gnB us j = false := gnB_past (by omega)
              have hgn2 : ¬ ((j : Int) < (n2 : Int)) := by omega
              rw [hg2] at HLS
              have hE := HS5.out
              rw [m_left l t2 us k j hg2] at hE
              have HE := Lib.hid hE
              clear hE
              go_wp2_with fail
              refine ⟨⟨j + 1, hjk, by rw [HLS.out]; go_num, by go_num, HE.out⟩, by simp [intOf]; omega⟩
        · obtain rfl : j = k := by omega
          clear hjk hj
          have hall : ∀ e ∈ Mh j (hF l t2 us j), e.at_ ≤ 18446744073709551615 := fun e he => by
            obtain ⟨m, _, rfl, _⟩ := m_at_end he
            show enT l t2 m ≤ _
            unfold enT
            split
            · exact (HU.out.2.1.range_at m).2
            · exact (HU.out.1.range_at m).2
          have KD := Lib.hid (HS.out.due (Nat.le_trans (Mh.length_le _ _) (by omega)) 18446744073709551615)
          have hperm := (due_all hall).1
          have hlfl := lfN_le us j
          obtain ⟨D, hD⟩ : ∃ D, D = (dueL 18446744073709551615 (Mh j (hF l t2 us j))).1 := ⟨_, rfl⟩
          rw [← hD] at KD hperm
          have hDl : D.length = lfN us j := hperm.length_eq.trans (m_end l t2 us j)
          obtain ⟨lf, hlf⟩ : ∃ lf, lf = lfN us j := ⟨_, rfl⟩
          rw [← hlf] at hDl hlfl ⊢
          have HD := Lib.hid (And.intro hperm hDl)
          clear hD hperm hDl hlf hall
          have hjj : ¬ ((j : Int) < (j : Int)) := by omega
          go_wp2_with fail
          refine KD.out.mono ?_
          rintro e w4 ⟨v, rfl, hEO, hUO, hbw⟩
          obtain ⟨AD, cD, rfl, hsD, _⟩ := EnS.of_own hEO
          rw [HD.out.2] at hsD ⊢
          have H4 := Lib.hid (And.intro hsD (And.intro hUO hbw))
          clear hEO hsD hUO hbw KD
          go_wp2_with fail
          go_loopw [14] (fun x wr => ∃ i : Nat, i ≤ lf ∧ x = .int .i64 i ∧ Below w4.heap.size w4 wr) (fun x _ => lf - (intOf x).toNat)
          case atStart => exact ⟨0, Nat.zero_le _, rfl, Below.refl _ _⟩
          case round =>
            obtain ⟨i, hi, rfl, hbr⟩ := hrel
            have hbr := Lib.hid hbr
            by_cases hil : i < lf
            · obtain ⟨e, he⟩ : ∃ e, D[i]? = some e := ⟨D[i]'(by rw [HD.out.2]; exact hil), List.getElem?_eq_getElem _⟩
              obtain ⟨m, hm, rfl, hgm⟩ := m_at_end (HD.out.1.mem_iff.1 (List.mem_of_getElem? he))
              obtain ⟨bd, od, rfl, q1, q2⟩ := (H4.out.1.later hbr.out (Nat.le_refl _)).here i _ he
              have q3 := ((H4.out.2.1.kept (hbr.out.block be H4.out.2.1.lt)).at_ (j := m) (by rw [fF_length]; exact hm)).1
              rw [fF_get l t2 hm, if_pos hm] at q3
              obtain ⟨t, ht⟩ : ∃ t, t = enT l t2 m := ⟨_, rfl⟩
              rw [← ht] at q3 he
              dsimp only at q1 q2
              rw [← ht] at q2
              have hil2 : (i : Int) < (lf : Int) := by omega
              have hm2 : (m : Int) < (j : Int) := by omega
              have l1 := lt_of_cell' q2
              have l2 := lt_of_cell' q3
              have x1 : ∀ w', Below wr.heap.size wr w' → w'.cell? ⟨bd, od + i * 2 + 1, none⟩ = some (.int .u64 t) := fun w' hb => (hb.cell (p := ⟨bd, od + i * 2 + 1, none⟩) l1).trans q2
              have x2 : ∀ w', Below wr.heap.size wr w' → w'.cell? ⟨be, m, none⟩ = some (.int .u64 t) := fun w' hb => (hb.cell (p := ⟨be, m, none⟩) l2).trans q3
              clear ht l1 l2 q2 q3
              by_cases hgn : m < n2
              · obtain ⟨b2, o2, rfl, r3⟩ := (HU.out.2.2.later (H4.out.2.2.trans (hbr.out.mono H4.out.2.2.size)) (Nat.le_refl _)).bool hgn
                rw [hgm] at r3
                have l3 := lt_of_cell' r3
                have x3 : ∀ w', Below wr.heap.size wr w' → w'.cell? ⟨b2, o2 + m, none⟩ = some (.bool false) := fun w' hb => (hb.cell (p := ⟨b2, o2 + m, none⟩) l3).trans r3
                clear r3 l3
                go_wp2_with fail
                have z4 : (m : Int) < (n2 : Int) := by omega
                have z5 : m < n2 := hgn
                have z1 : ¬ ((m : Int) < 0) := by omega
                have z2 : ¬ ((j : Int) ≤ (m : Int)) := by omega
                have z3 : (t != t) = false := by simp
                have hS : Below wr.heap.size wr wr.drew := below_of_drew (Below.refl _ _)
                refine rg_begin (fun w' => Below wr.heap.size wr w') 31 (by kernel_rfl) rfl ?_
                refine rg_take 0 (v := ?rv1) rfl (by kernel_rfl) (by kernel_rfl) (by kernel_rfl) (fun _ _ _ h => h) (by rfl) hS (fun w2 hw2 => ?ry1) ?rr1
                case ry1 => ((try dsimp only at hw2); go_simp <;> with_reducible rfl)
                simp only [Act.put, List.setIfInBounds_toArray, List.set_cons_zero, List.set_cons_succ]
                refine rg_take 1 (v := ?rv2) rfl (by kernel_rfl) (by kernel_rfl) (by kernel_rfl) (fun _ _ _ h => h) (by rfl) hS (fun w2 hw2 => ?ry2) ?rr2
                case ry2 => ((try dsimp only at hw2); go_simp <;> with_reducible rfl)
                simp only [Act.put, List.setIfInBounds_toArray, List.set_cons_zero, List.set_cons_succ]
                refine rg_take 2 (v := ?rv3) rfl (by kernel_rfl) (by kernel_rfl) (by kernel_rfl) (fun _ _ _ h => h) (by rfl) hS (fun w2 hw2 => ?ry3) ?rr3
                case ry3 => ((try dsimp only at hw2); go_simp <;> with_reducible rfl)
                simp only [Act.put, List.setIfInBounds_toArray, List.set_cons_zero, List.set_cons_succ]
                refine rg_take 3 (v := ?rv4) rfl (by kernel_rfl) (by kernel_rfl) (by kernel_rfl) (fun _ _ _ h => h) (by rfl) hS (fun w2 hw2 => ?ry4) ?rr4
                case ry4 => ((try dsimp only at hw2); go_simp <;> with_reducible rfl)
                simp only [Act.put, List.setIfInBounds_toArray, List.set_cons_zero, List.set_cons_succ]
                refine rg_take 4 (v := ?rv5) rfl (by kernel_rfl) (by kernel_rfl) (by kernel_rfl) (fun _ _ _ h => h) (by rfl) hS (fun w2 hw2 => ?ry5) ?rr5
                case ry5 => ((try dsimp only at hw2); go_simp <;> with_reducible rfl)
                simp only [Act.put, List.setIfInBounds_toArray, List.set_cons_zero, List.set_cons_succ]
                refine rg_take 5 (v := ?rv6) rfl (by kernel_rfl) (by kernel_rfl) (by kernel_rfl) (fun _ _ _ h => h) (by rfl) hS (fun w2 hw2 => ?ry6) ?rr6
                case ry6 => ((try dsimp only at hw2); go_simp <;> with_reducible rfl)
                simp only [Act.put, List.setIfInBounds_toArray, List.set_cons_zero, List.set_cons_succ]
                refine rg_take 6 (v := ?rv7) rfl (by kernel_rfl) (by kernel_rfl) (by kernel_rfl) (fun _ _ _ h => h) (by rfl) hS (fun w2 hw2 => ?ry7) ?rr7
                case ry7 => ((try dsimp only at hw2); go_simp <;> with_reducible rfl)
                simp only [Act.put, List.setIfInBounds_toArray, List.set_cons_zero, List.set_cons_succ]
                refine rg_take 7 (v := ?rv8) rfl (by kernel_rfl) (by kernel_rfl) (by kernel_rfl) (fun _ _ _ h => h) (by rfl) hS (fun w2 hw2 => ?ry8) ?rr8
                case ry8 => ((try dsimp only at hw2); go_simp <;> with_reducible rfl)
                simp only [Act.put, List.setIfInBounds_toArray, List.set_cons_zero, List.set_cons_succ]
                refine rg_take 8 (v := ?rv9) rfl (by kernel_rfl) (by kernel_rfl) (by kernel_rfl) (fun _ _ _ h => h) (by rfl) hS (fun w2 hw2 => ?ry9) ?rr9
                case ry9 => ((try dsimp only at hw2); go_simp <;> with_reducible rfl)
                simp only [Act.put, List.setIfInBounds_toArray, List.set_cons_zero, List.set_cons_succ]
                refine rg_take 9 (v := ?rv10) rfl (by kernel_rfl) (by kernel_rfl) (by kernel_rfl) (fun _ _ _ h => h) (by rfl) hS (fun w2 hw2 => ?ry10) ?rr10
                case ry10 => ((try dsimp only at hw2); go_simp <;> with_reducible rfl)
                simp only [Act.put, List.setIfInBounds_toArray, List.set_cons_zero, List.set_cons_succ]
                refine rg_take 13 (v := ?rv11) rfl (by kernel_rfl) (by kernel_rfl) (by kernel_rfl) (fun _ _ _ h => h) (by rfl) hS (fun w2 hw2 => ?ry11) ?rr11
                case ry11 => ((try dsimp only at hw2); go_simp <;> with_reducible rfl)
                simp only [Act.put, List.setIfInBounds_toArray, List.set_cons_zero, List.set_cons_succ]
                refine rg_take 14 (v := ?rv12) rfl (by kernel_rfl) (by kernel_rfl) (by kernel_rfl) (fun _ _ _ h => h) (by rfl) hS (fun w2 hw2 => ?ry12) ?rr12
                case ry12 => ((try dsimp only at hw2); go_simp <;> with_reducible rfl)
                simp only [Act.put, List.setIfInBounds_toArray, List.set_cons_zero, List.set_cons_succ]
                refine rg_take 10 (v := ?rv13) rfl (by kernel_rfl) (by kernel_rfl) (by kernel_rfl) (fun _ _ _ h => h) (by rfl) hS (fun w2 hw2 => ?ry13) ?rr13
                case ry13 => ((try dsimp only at hw2); go_simp <;> with_reducible rfl)
                simp only [Act.put, List.setIfInBounds_toArray, List.set_cons_zero, List.set_cons_succ]
                refine rg_take 15 (v := ?rv14) rfl (by kernel_rfl) (by kernel_rfl) (by kernel_rfl) (fun _ _ _ h => h) (by rfl) hS (fun w2 hw2 => ?ry14) ?rr14
                case ry14 => ((try dsimp only at hw2); go_simp <;> with_reducible rfl)
                simp only [Act.put, List.setIfInBounds_toArray, List.set_cons_zero, List.set_cons_succ]
                refine rg_take 11 (v := ?rv15) rfl (by kernel_rfl) (by kernel_rfl) (by kernel_rfl) (fun _ _ _ h => h) (by rfl) hS (fun w2 hw2 => ?ry15) ?rr15
                case ry15 => ((try dsimp only at hw2); go_simp <;> with_reducible rfl)
                simp only [Act.put, List.setIfInBounds_toArray, List.set_cons_zero, List.set_cons_succ]
                refine rg_take 12 (v := ?rv16) rfl (by kernel_rfl) (by kernel_rfl) (by kernel_rfl) (fun _ _ _ h => h) (by rfl) hS (fun w2 hw2 => ?ry16) ?rr16
                case ry16 => ((try dsimp only at hw2); go_simp <;> with_reducible rfl)
                simp only [Act.put, List.setIfInBounds_toArray, List.set_cons_zero, List.set_cons_succ]
                refine rg_take 16 (v := ?rv17) rfl (by kernel_rfl) (by kernel_rfl) (by kernel_rfl) (fun _ _ _ h => h) (by rfl) hS (fun w2 hw2 => ?ry17) ?rr17
                case ry17 => ((try dsimp only at hw2); go_simp <;> with_reducible rfl)
                simp only [Act.put, List.setIfInBounds_toArray, List.set_cons_zero, List.set_cons_succ]
                refine rg_take 17 (v := ?rv18) rfl (by kernel_rfl) (by kernel_rfl) (by kernel_rfl) (fun _ _ _ h => h) (by rfl) hS (fun w2 hw2 => ?ry18) ?rr18
                case ry18 => ((try dsimp only at hw2); go_simp <;> with_reducible rfl)
                simp only [Act.put, List.setIfInBounds_toArray, List.set_cons_zero, List.set_cons_succ]
                refine rg_take 18 (v := ?rv19) rfl (by kernel_rfl) (by kernel_rfl) (by kernel_rfl) (fun _ _ _ h => h) (by rfl) hS (fun w2 hw2 => ?ry19) ?rr19
                case ry19 => ((try dsimp only at hw2); go_simp <;> with_reducible rfl)
                simp only [Act.put, List.setIfInBounds_toArray, List.set_cons_zero, List.set_cons_succ]
                refine rg_take 19 (v := ?rv20) rfl (by kernel_rfl) (by kernel_rfl) (by kernel_rfl) (fun _ _ _ h => h) (by rfl) hS (fun w2 hw2 => ?ry20) ?rr20
                case ry20 => ((try dsimp only at hw2); go_simp <;> with_reducible rfl)
                simp only [Act.put, List.setIfInBounds_toArray, List.set_cons_zero, List.set_cons_succ]
                refine rg_take 20 (v := ?rv21) rfl (by kernel_rfl) (by kernel_rfl) (by kernel_rfl) (fun _ _ _ h => h) (by rfl) hS (fun w2 hw2 => ?ry21) ?rr21
                case ry21 => ((try dsimp only at hw2); go_simp <;> with_reducible rfl)
                simp only [Act.put, List.setIfInBounds_toArray, List.set_cons_zero, List.set_cons_succ]
                refine rg_take 21 (v := ?rv22) rfl (by kernel_rfl) (by kernel_rfl) (by kernel_rfl) (fun _ _ _ h => h) (by rfl) hS (fun w2 hw2 => ?ry22) ?rr22
                case ry22 => ((try dsimp only at hw2); go_simp <;> with_reducible rfl)
                simp only [Act.put, List.setIfInBounds_toArray, List.set_cons_zero, List.set_cons_succ]
                refine rg_take 22 (v := ?rv23) rfl (by kernel_rfl) (by kernel_rfl) (by kernel_rfl) (fun _ _ _ h => h) (by rfl) hS (fun w2 hw2 => ?ry23) ?rr23
                case ry23 => ((try dsimp only at hw2); go_simp <;> with_reducible rfl)
                simp only [Act.put, List.setIfInBounds_toArray, List.set_cons_zero, List.set_cons_succ]
                refine rg_take 23 (v := ?rv24) rfl (by kernel_rfl) (by kernel_rfl) (by kernel_rfl) (fun _ _ _ h => h) (by rfl) hS (fun w2 hw2 => ?ry24) ?rr24
                case ry24 => ((try dsimp only at hw2); go_simp <;> with_reducible rfl)
                simp only [Act.put, List.setIfInBounds_toArray, List.set_cons_zero, List.set_cons_succ]
                refine rg_take 24 (v := ?rv25) rfl (by kernel_rfl) (by kernel_rfl) (by kernel_rfl) (fun _ _ _ h => h) (by rfl) hS (fun w2 hw2 => ?ry25) ?rr25
                case ry25 => ((try dsimp only at hw2); go_simp <;> with_reducible rfl)
                simp only [Act.put, List.setIfInBounds_toArray, List.set_cons_zero, List.set_cons_succ]
                refine rg_take 25 (v := ?rv26) rfl (by kernel_rfl) (by kernel_rfl) (by kernel_rfl) (fun _ _ _ h => h) (by rfl) hS (fun w2 hw2 => ?ry26) ?rr26
                case ry26 => ((try dsimp only at hw2); go_simp <;> with_reducible rfl)
                simp only [Act.put, List.setIfInBounds_toArray, List.set_cons_zero, List.set_cons_succ]
                refine rg_take 26 (v := ?rv27) rfl (by kernel_rfl) (by kernel_rfl) (by kernel_rfl) (fun _ _ _ h => h) (by rfl) hS (fun w2 hw2 => ?ry27) ?rr27
                case ry27 => ((try dsimp only at hw2); go_simp <;> with_reducible rfl)
                simp only [Act.put, List.setIfInBounds_toArray, List.set_cons_zero, List.set_cons_succ]
                refine rg_take 27 (v := ?rv28) rfl (by kernel_rfl) (by kernel_rfl) (by kernel_rfl) (fun _ _ _ h => h) (by rfl) hS (fun w2 hw2 => ?ry28) ?rr28
                case ry28 => ((try dsimp only at hw2); go_simp <;> with_reducible rfl)
                simp only [Act.put, List.setIfInBounds_toArray, List.set_cons_zero, List.set_cons_succ]
                refine rg_take 28 (v := ?rv29) rfl (by kernel_rfl) (by kernel_rfl) (by kernel_rfl) (fun _ _ _ h => h) (by rfl) hS (fun w2 hw2 => ?ry29) ?rr29
                case ry29 => ((try dsimp only at hw2); go_simp <;> with_reducible rfl)
                simp only [Act.put, List.setIfInBounds_toArray, List.set_cons_zero, List.set_cons_succ]
                refine rg_take 29 (v := ?rv30) rfl (by kernel_rfl) (by kernel_rfl) (by kernel_rfl) (fun _ _ _ h => h) (by rfl) hS (fun w2 hw2 => ?ry30) ?rr30
                case ry30 => ((try dsimp only at hw2); go_simp <;> with_reducible rfl)
                simp only [Act.put, List.setIfInBounds_toArray, List.set_cons_zero, List.set_cons_succ]
                refine rg_take 30 (v := ?rv31) rfl (by kernel_rfl) (by kernel_rfl) (by kernel_rfl) (fun _ _ _ h => h) (by rfl) hS (fun w2 hw2 => ?ry31) ?rr31
                case ry31 => ((try dsimp only at hw2); go_simp <;> with_reducible rfl)
                simp only [Act.put, List.setIfInBounds_toArray, List.set_cons_zero, List.set_cons_succ]
                refine rg_done (by kernel_rfl) ?_
                have HB := Lib.hid (hbr.out.trans (hS.mono hbr.out.size))
                clear hS
                go_wp2_with fail
                exact ⟨⟨i + 1, hil, by go_num, HB.out⟩, by simp [intOf]; omega⟩
              · go_wp2_with fail
                have z4 : ¬ ((m : Int) < (n2 : Int)) := by omega
                have z1 : ¬ ((m : Int) < 0) := by omega
                have z2 : ¬ ((j : Int) ≤ (m : Int)) := by omega
                have z3 : (t != t) = false := by simp
                have hS : Below wr.heap.size wr wr.drew := below_of_drew (Below.refl _ _)
                refine rg_begin (fun w' => Below wr.heap.size wr w') 31 (by kernel_rfl) rfl ?_
                refine rg_take 0 (v := ?rv32) rfl (by kernel_rfl) (by kernel_rfl) (by kernel_rfl) (fun _ _ _ h => h) (by rfl) hS (fun w2 hw2 => ?ry32) ?rr32
                case ry32 => ((try dsimp only at hw2); go_simp <;> with_reducible rfl)
                simp only [Act.put, List.setIfInBounds_toArray, List.set_cons_zero, List.set_cons_succ]
                refine rg_take 1 (v := ?rv33) rfl (by kernel_rfl) (by kernel_rfl) (by kernel_rfl) (fun _ _ _ h => h) (by rfl) hS (fun w2 hw2 => ?ry33) ?rr33
                case ry33 => ((try dsimp only at hw2); go_simp <;> with_reducible rfl)
                simp only [Act.put, List.setIfInBounds_toArray, List.set_cons_zero, List.set_cons_succ]
                refine rg_take 2 (v := ?rv34) rfl (by kernel_rfl) (by kernel_rfl) (by kernel_rfl) (fun _ _ _ h => h) (by rfl) hS (fun w2 hw2 => ?ry34) ?rr34
                case ry34 => ((try dsimp only at hw2); go_simp <;> with_reducible rfl)
                simp only [Act.put, List.setIfInBounds_toArray, List.set_cons_zero, List.set_cons_succ]
                refine rg_take 3 (v := ?rv35) rfl (by kernel_rfl) (by kernel_rfl) (by kernel_rfl) (fun _ _ _ h => h) (by rfl) hS (fun w2 hw2 => ?ry35) ?rr35
                case ry35 => ((try dsimp only at hw2); go_simp <;> with_reducible rfl)
                simp only [Act.put, List.setIfInBounds_toArray, List.set_cons_zero, List.set_cons_succ]
                refine rg_take 4 (v := ?rv36) rfl (by kernel_rfl) (by kernel_rfl) (by kernel_rfl) (fun _ _ _ h => h) (by rfl) hS (fun w2 hw2 => ?ry36) ?rr36
                case ry36 => ((try dsimp only at hw2); go_simp <;> with_reducible rfl)
                simp only [Act.put, List.setIfInBounds_toArray, List.set_cons_zero, List.set_cons_succ]
                refine rg_take 5 (v := ?rv37) rfl (by kernel_rfl) (by kernel_rfl) (by kernel_rfl) (fun _ _ _ h => h) (by rfl) hS (fun w2 hw2 => ?ry37) ?rr37
                case ry37 => ((try dsimp only at hw2); go_simp <;> with_reducible rfl)
                simp only [Act.put, List.setIfInBounds_toArray, List.set_cons_zero, List.set_cons_succ]
                refine rg_take 6 (v := ?rv38) rfl (by kernel_rfl) (by kernel_rfl) (by kernel_rfl) (fun _ _ _ h => h) (by rfl) hS (fun w2 hw2 => ?ry38) ?rr38
                case ry38 => ((try dsimp only at hw2); go_simp <;> with_reducible rfl)
                simp only [Act.put, List.setIfInBounds_toArray, List.set_cons_zero, List.set_cons_succ]
                refine rg_take 7 (v := ?rv39) rfl (by kernel_rfl) (by kernel_rfl) (by kernel_rfl) (fun _ _ _ h => h) (by rfl) hS (fun w2 hw2 => ?ry39) ?rr39
                case ry39 => ((try dsimp only at hw2); go_simp <;> with_reducible rfl)
                simp only [Act.put, List.setIfInBounds_toArray, List.set_cons_zero, List.set_cons_succ]
                refine rg_take 8 (v := ?rv40) rfl (by kernel_rfl) (by kernel_rfl) (by kernel_rfl) (fun _ _ _ h => h) (by rfl) hS (fun w2 hw2 => ?ry40) ?rr40
                case ry40 => ((try dsimp only at hw2); go_simp <;> with_reducible rfl)
                simp only [Act.put, List.setIfInBounds_toArray, List.set_cons_zero, List.set_cons_succ]
                refine rg_take 9 (v := ?rv41) rfl (by kernel_rfl) (by kernel_rfl) (by kernel_rfl) (fun _ _ _ h => h) (by rfl) hS (fun w2 hw2 => ?ry41) ?rr41
                case ry41 => ((try dsimp only at hw2); go_simp <;> with_reducible rfl)
                simp only [Act.put, List.setIfInBounds_toArray, List.set_cons_zero, List.set_cons_succ]
                refine rg_take 13 (v := ?rv42) rfl (by kernel_rfl) (by kernel_rfl) (by kernel_rfl) (fun _ _ _ h => h) (by rfl) hS (fun w2 hw2 => ?ry42) ?rr42
                case ry42 => ((try dsimp only at hw2); go_simp <;> with_reducible rfl)
                simp only [Act.put, List.setIfInBounds_toArray, List.set_cons_zero, List.set_cons_succ]
                refine rg_take 14 (v := ?rv43) rfl (by kernel_rfl) (by kernel_rfl) (by kernel_rfl) (fun _ _ _ h => h) (by rfl) hS (fun w2 hw2 => ?ry43) ?rr43
                case ry43 => ((try dsimp only at hw2); go_simp <;> with_reducible rfl)
                simp only [Act.put, List.setIfInBounds_toArray, List.set_cons_zero, List.set_cons_succ]
                refine rg_take 10 (v := ?rv44) rfl (by kernel_rfl) (by kernel_rfl) (by kernel_rfl) (fun _ _ _ h => h) (by rfl) hS (fun w2 hw2 => ?ry44) ?rr44
                case ry44 => ((try dsimp only at hw2); go_simp <;> with_reducible rfl)
                simp only [Act.put, List.setIfInBounds_toArray, List.set_cons_zero, List.set_cons_succ]
                refine rg_take 15 (v := ?rv45) rfl (by kernel_rfl) (by kernel_rfl) (by kernel_rfl) (fun _ _ _ h => h) (by rfl) hS (fun w2 hw2 => ?ry45) ?rr45
                case ry45 => ((try dsimp only at hw2); go_simp <;> with_reducible rfl)
                simp only [Act.put, List.setIfInBounds_toArray, List.set_cons_zero, List.set_cons_succ]
                refine rg_take 11 (v := ?rv46) rfl (by kernel_rfl) (by kernel_rfl) (by kernel_rfl) (fun _ _ _ h => h) (by rfl) hS (fun w2 hw2 => ?ry46) ?rr46
                case ry46 => ((try dsimp only at hw2); go_simp <;> with_reducible rfl)
                simp only [Act.put, List.setIfInBounds_toArray, List.set_cons_zero, List.set_cons_succ]
                refine rg_take 12 (v := ?rv47) rfl (by kernel_rfl) (by kernel_rfl) (by kernel_rfl) (fun _ _ _ h => h) (by rfl) hS (fun w2 hw2 => ?ry47) ?rr47
                case ry47 => ((try dsimp only at hw2); go_simp <;> with_reducible rfl)
                simp only [Act.put, List.setIfInBounds_toArray, List.set_cons_zero, List.set_cons_succ]
                refine rg_take 16 (v := ?rv48) rfl (by kernel_rfl) (by kernel_rfl) (by kernel_rfl) (fun _ _ _ h => h) (by rfl) hS (fun w2 hw2 => ?ry48) ?rr48
                case ry48 => ((try dsimp only at hw2); go_simp <;> with_reducible rfl)
                simp only [Act.put, List.setIfInBounds_toArray, List.set_cons_zero, List.set_cons_succ]
                refine rg_take 17 (v := ?rv49) rfl (by kernel_rfl) (by kernel_rfl) (by kernel_rfl) (fun _ _ _ h => h) (by rfl) hS (fun w2 hw2 => ?ry49) ?rr49
                case ry49 => ((try dsimp only at hw2); go_simp <;> with_reducible rfl)
                simp only [Act.put, List.setIfInBounds_toArray, List.set_cons_zero, List.set_cons_succ]
                refine rg_take 18 (v := ?rv50) rfl (by kernel_rfl) (by kernel_rfl) (by kernel_rfl) (fun _ _ _ h => h) (by rfl) hS (fun w2 hw2 => ?ry50) ?rr50
                case ry50 => ((try dsimp only at hw2); go_simp <;> with_reducible rfl)
                simp only [Act.put, List.setIfInBounds_toArray, List.set_cons_zero, List.set_cons_succ]
                refine rg_take 19 (v := ?rv51) rfl (by kernel_rfl) (by kernel_rfl) (by kernel_rfl) (fun _ _ _ h => h) (by rfl) hS (fun w2 hw2 => ?ry51) ?rr51
                case ry51 => ((try dsimp only at hw2); go_simp <;> with_reducible rfl)
                simp only [Act.put, List.setIfInBounds_toArray, List.set_cons_zero, List.set_cons_succ]
                refine rg_take 20 (v := ?rv52) rfl (by kernel_rfl) (by kernel_rfl) (by kernel_rfl) (fun _ _ _ h => h) (by rfl) hS (fun w2 hw2 => ?ry52) ?rr52
                case ry52 => ((try dsimp only at hw2); go_simp <;> with_reducible rfl)
                simp only [Act.put, List.setIfInBounds_toArray, List.set_cons_zero, List.set_cons_succ]
                refine rg_take 21 (v := ?rv53) rfl (by kernel_rfl) (by kernel_rfl) (by kernel_rfl) (fun _ _ _ h => h) (by rfl) hS (fun w2 hw2 => ?ry53) ?rr53
                case ry53 => ((try dsimp only at hw2); go_simp <;> with_reducible rfl)
                simp only [Act.put, List.setIfInBounds_toArray, List.set_cons_zero, List.set_cons_succ]
                refine rg_take 22 (v := ?rv54) rfl (by kernel_rfl) (by kernel_rfl) (by kernel_rfl) (fun _ _ _ h => h) (by rfl) hS (fun w2 hw2 => ?ry54) ?rr54
                case ry54 => ((try dsimp only at hw2); go_simp <;> with_reducible rfl)
                simp only [Act.put, List.setIfInBounds_toArray, List.set_cons_zero, List.set_cons_succ]
                refine rg_take 23 (v := ?rv55) rfl (by kernel_rfl) (by kernel_rfl) (by kernel_rfl) (fun _ _ _ h => h) (by rfl) hS (fun w2 hw2 => ?ry55) ?rr55
                case ry55 => ((try dsimp only at hw2); go_simp <;> with_reducible rfl)
                simp only [Act.put, List.setIfInBounds_toArray, List.set_cons_zero, List.set_cons_succ]
                refine rg_take 24 (v := ?rv56) rfl (by kernel_rfl) (by kernel_rfl) (by kernel_rfl) (fun _ _ _ h => h) (by rfl) hS (fun w2 hw2 => ?ry56) ?rr56
                case ry56 => ((try dsimp only at hw2); go_simp <;> with_reducible rfl)
                simp only [Act.put, List.setIfInBounds_toArray, List.set_cons_zero, List.set_cons_succ]
                refine rg_skip 25 rfl (by kernel_rfl) (by kernel_rfl) (by kernel_rfl) (fun _ _ _ h => h) (by rfl) hS ?_
                simp only [Act.put, List.setIfInBounds_toArray, List.set_cons_zero, List.set_cons_succ]
                refine rg_skip 26 rfl (by kernel_rfl) (by kernel_rfl) (by kernel_rfl) (fun _ _ _ h => h) (by rfl) hS ?_
                simp only [Act.put, List.setIfInBounds_toArray, List.set_cons_zero, List.set_cons_succ]
                refine rg_skip 27 rfl (by kernel_rfl) (by kernel_rfl) (by kernel_rfl) (fun _ _ _ h => h) (by rfl) hS ?_
                simp only [Act.put, List.setIfInBounds_toArray, List.set_cons_zero, List.set_cons_succ]
                refine rg_skip 28 rfl (by kernel_rfl) (by kernel_rfl) (by kernel_rfl) (fun _ _ _ h => h) (by rfl) hS ?_
                simp only [Act.put, List.setIfInBounds_toArray, List.set_cons_zero, List.set_cons_succ]
                refine rg_take 29 (v := ?rv57) rfl (by kernel_rfl) (by kernel_rfl) (by kernel_rfl) (fun _ _ _ h => h) (by rfl) hS (fun w2 hw2 => ?ry57) ?rr57
                case ry57 => ((try dsimp only at hw2); go_simp <;> with_reducible rfl)
                simp only [Act.put, List.setIfInBounds_toArray, List.set_cons_zero, List.set_cons_succ]
                refine rg_take 30 (v := ?rv58) rfl (by kernel_rfl) (by kernel_rfl) (by kernel_rfl) (fun _ _ _ h => h) (by rfl) hS (fun w2 hw2 => ?ry58) ?rr58
                case ry58 => ((try dsimp only at hw2); go_simp <;> with_reducible rfl)
                simp only [Act.put, List.setIfInBounds_toArray, List.set_cons_zero, List.set_cons_succ]
                refine rg_done (by kernel_rfl) ?_
                have HB := Lib.hid (hbr.out.trans (hS.mono hbr.out.size))
                clear hS
                go_wp2_with fail
                exact ⟨⟨i + 1, hil, by go_num, HB.out⟩, by simp [intOf]; omega⟩
            · obtain rfl : i = lf := by omega
              have HB := Lib.hid (H4.out.2.2.trans (hbr.out.mono H4.out.2.2.size))
              clear hil hi
              have hii : ¬ ((i : Int) < (i : Int)) := by omega
              go_wp2_with fail
              go_ret
              exact ⟨rfl, HB.out⟩
set_option maxHeartbeats 4000000 in
theorem expiryMoves_zero {A : Option Addr} {c : Nat} (hcA : A = none → c = 0) (hcm : c ≤ maxLen) (v1 v2 : Value) (hv1 : ∃ A n c, v1 = .slice A n c) (hv2 : ∃ A n c, v2 = .slice A n c) (w : World) :
    Calls Tryd.prog 5 #[.slice A 0 c, v1, v2] w fun e w' => e = .returned (.bool true) ∧ Below w.heap.size w w' := by
  obtain ⟨A1, n1, c1, rfl⟩ := hv1
  obtain ⟨A2, n2, c2, rfl⟩ := hv2
  obtain ⟨i0, f1, f2, f3, f4⟩ := info_of17 infoU
  have K1 := Lib.hid (new_L 100 w)
  rw [show heldV 100 = 100 by decide] at K1
  have K3 := Lib.hid fun w1 => awake17 w1
  have HI := Lib.hid (And.intro f1 (And.intro f2 (And.intro f3 f4)))
  clear f1 f2 f3 f4
  unfold maxLen at hcm
  have hmin : min (0 : Int) 60 = 0 := by decide
  go_enter Tryd.func5, Tryd.ntmps5
  go_wp2_with fail
  refine K1.out.mono ?_
  rintro e w1 ⟨rfl, h1, b1⟩
  obtain ⟨g, hgg⟩ : ∃ g, g = w.heap.size := ⟨_, rfl⟩
  rw [← hgg] at h1 ⊢
  have H1 := Lib.hid (And.intro h1 (And.intro b1 hgg))
  clear h1 b1 hgg K1
  go_wp2_with fail
  refine (K3.out w1).mono ?_
  rintro e w3 ⟨rfl, b3⟩
  have H3 := Lib.hid (And.intro (H1.out.1.later b3 (Nat.le_refl _)) (H1.out.2.1.trans (b3.mono H1.out.2.1.size)))
  clear b3 K3
  have hend : ∀ w4, Below w3.heap.size w3 w4 → Calls Tryd.prog 14 #[.pointer (some ⟨g, 0, none⟩), .int .u64 18446744073709551615] w4 fun e w5 => ∃ A5 c5, e = .returned (.slice A5 0 c5) ∧ Below w.heap.size w w5 := fun w4 hb => by
    refine (due_L (H3.out.1.later hb (Nat.le_refl _)) (by decide) 18446744073709551615).mono ?_
    rintro e w5 ⟨v, rfl, _, hEO, _, hm⟩
    have hd : (dueL 18446744073709551615 ([] : List En)).1 = [] := rfl
    rw [hd] at hEO
    obtain ⟨A5, c5, rfl, _, _⟩ := EnS.of_own hEO
    exact ⟨A5, c5, rfl, hm.lo (H3.out.2.trans (hb.mono H3.out.2.size)) ⟨H1.out.2.2 ▸ Nat.le_refl _, fun b hb => by cases hb⟩ (H3.out.2.trans (hb.mono H3.out.2.size)).size⟩
  have HE := Lib.hid hend
  clear hend
  cases A with
  | none =>
    obtain rfl := hcA rfl
    go_wp2_with (first
      | (refine wpList_minI rfl (.tmp 24) (.const (.int .i64 60)) 3 rfl 0 60 rfl rfl ?_; rw [hmin]))
    refine wp_loop_rounds 1 ?_
    rw [rounds_succ]
    go_wp2_with fail
    refine wp_loop_rounds 1 ?_
    rw [rounds_succ]
    go_wp2_with fail
    refine (HE.out w3 (Below.refl _ _)).mono ?_
    rintro e w5 ⟨A5, c5, rfl, hb5⟩
    go_wp2_with fail
    refine wp_loop_rounds 1 ?_
    rw [rounds_succ]
    go_wp2_with fail
    go_ret
    exact ⟨rfl, hb5⟩
  | some a =>
    obtain ⟨b0, o0, sp⟩ := a
    go_wp2_with (first
      | (refine wpList_minI rfl (.tmp 24) (.const (.int .i64 60)) 3 rfl 0 60 rfl rfl ?_; rw [hmin])
      | (at_builtin; refine wpList_append_own_at _ rfl (.const (.slice none 0 0)) (.tmp 28) 56 rfl 0 30 i0 _ 1 8 Tryd.underlying56 HI.out.1 HI.out.2.1 HI.out.2.2.1 HI.out.2.2.2 (by kernel_rfl) (by decide) _ 0 [] rfl (World.ownsRow_nil _ _ _ _) ⟨b0, o0, sp⟩ 0 c [] rfl rfl (fun j u hj => by simp at hj) (fun u hu => by cases hu) (by unfold maxLen; omega) (by omega) (Nat.zero_le _) ?_; intro v' w4 hown hg4 hnil hat))
    obtain rfl : v' = .slice none 0 0 := hnil.2 ⟨rfl, by trivial⟩
    have hb4 : Below w3.heap.size w3 w4 := ⟨hg4.os, hg4.tape, hg4.output, hg4.size, fun k hk => hg4.block k hk (by rintro ⟨⟩)⟩
    have HB4 := Lib.hid hb4
    clear hown hg4 hnil hat hb4
    refine wp_loop_rounds 1 ?_
    rw [rounds_succ]
    go_wp2_with fail
    refine wp_loop_rounds 1 ?_
    rw [rounds_succ]
    go_wp2_with fail
    refine (HE.out w4 HB4.out).mono ?_
    rintro e w5 ⟨A5, c5, rfl, hb5⟩
    go_wp2_with fail
    refine wp_loop_rounds 1 ?_
    rw [rounds_succ]
    go_wp2_with fail
    go_ret
    exact ⟨rfl, hb5⟩

theorem expiryMoves {A : Option Addr} {n c : Nat} {l : List Int} {A1 : Option Addr} {n1 c1 : Nat} {t2 : List Int} {A2 : Option Addr} {n2 c2 : Nat} {us : List Bool} {w : World} (hu : Us w A n c l) (hu1 : Us w A1 n1 c1 t2) (hu2 : Gs w A2 n2 c2 (uv us)) (hg : Handle w) :
    Calls Tryd.prog 5 #[.slice A n c, .slice A1 n1 c1, .slice A2 n2 c2] w fun e w' => e = .returned (.bool true) ∧ Below w.heap.size w w' := by
  by_cases hn : n = 0
  · subst hn
    exact expiryMoves_zero hu.none_ hu.max _ _ ⟨_, _, _, rfl⟩ ⟨_, _, _, rfl⟩ w
  · obtain ⟨b, off, rfl, _⟩ := hu.here 0 (by omega)
    exact expiryMoves_some (by omega) hu hu1 hu2 hg
-->>
end Go.Proofs.YtdpmjbhkmfjpfaaDoor
