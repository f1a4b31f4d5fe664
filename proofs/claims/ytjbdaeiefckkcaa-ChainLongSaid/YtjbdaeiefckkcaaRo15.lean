/-
  Rows of records of the call's own: grown, read, a record stored into the midst. Conditions: a million of them at most.
-/
import Derived.Test.YtjbdaeiefckkcaaDg15
import Derived.Test.YtjbdaeiefckkcaaOwn
import Derived.Test.YtjbdaeiefckkcaaMid
namespace Go.Proofs.Ytjbdaeiefckkcaa
open Go.RowKit
set_option maxRecDepth 100000

def RkO (w : World) (base : Nat) (v : Value) (xs : List Rk) : Prop := w.ownsRow base 32 23 v xs.length (rkC xs) ∧ ∀ r ∈ xs, r.ok
theorem RkO.nil (w : World) (base : Nat) : RkO w base (.slice none 0 0) [] := ⟨World.ownsRow_nil _ _ _ _, fun f h => by cases h⟩
theorem RkO.later {w w' : World} {base : Nat} {v : Value} {xs : List Rk} (h : RkO w base v xs) (hb : Below w.heap.size w w') : RkO w' base v xs := ⟨own_kept h.1 hb, h.2⟩
theorem Rks.of_own {w : World} {base : Nat} {v : Value} {xs : List Rk} (h : RkO w base v xs) : ∃ A c, v = .slice A xs.length c ∧ Rks w A xs.length c xs := by
  obtain ⟨h, hk⟩ := h
  rcases h.2 with ⟨rfl, h0⟩ | ⟨g, cap, cur, rfl, hlo, _, hc, hm, _, _⟩
  · obtain rfl := List.eq_nil_of_length_eq_zero h0
    exact ⟨none, 0, rfl, Rks.nil w⟩
  · refine ⟨_, _, rfl, rfl, hc, hm, (fun h => by cases h), hk, fun i q hq => ⟨g, 0, rfl, fun j u hj => ?_⟩⟩
    have hk2 := h.cells (g := g) rfl (i * 23 + j) u (rkC_get hk hq hj)
    rw [add_plain, Nat.zero_add] at hk2
    rw [Nat.zero_add]
    exact hk2
theorem wp_cat_rk {o : Oper} {a : Act} {w : World} {K : Act → World → Prop} {Q : Exit → Act → World → Prop} (s x : Operand)
    (ho : o.op = .call { callee := .builtin .append, args := #[s, x], argTypes := #[26, 26] }) (base : Nat) (v : Value) (xs : List Rk) (hs : a.eval s = v) (hown : RkO w base v xs)
    {A : Addr} {n c : Nat} {ys : List Rk} (hx : a.eval x = .slice (some A) n c) (hq : Rks w (some A) n c ys) (hpl : 0 < n) (hm : xs.length + n ≤ 1000000) (hbase : base ≤ w.heap.size)
    (h : ∀ v' w', RkO w' base v' (xs ++ ys) → w.grownBy w' v.ownBlock → (v'.ownBlock = v.ownBlock ∨ v'.ownBlock = some w.heap.size) → K (a.put o.dst v') w') : o.wp Try.prog a w K Q := by
  obtain ⟨i, h1, h2, h3, h4⟩ := info_of15 infoRk
  have hyl := hq.len
  obtain ⟨y0, hy0⟩ : ∃ y, ys[0]? = some y := ⟨ys[0]'(by omega), List.getElem?_eq_getElem _⟩
  obtain ⟨b, off, hA, _⟩ := hq.here 0 y0 hy0
  obtain rfl := Option.some.inj hA
  obtain ⟨v', w', hr, o', g', _, hat⟩ := run_append_own_at (P := Try.prog) w base 26 o.type 32 i _ 23 96 Try.underlying26 h1 h2 h3 h4 (by kernel_rfl) (by decide) v xs.length _ hown.1 ⟨b, off, none⟩ n c (rkC ys) (by rw [rkC_len hq.ok, hyl]) (fun j u hj => by
    have hjl : j < n * 23 := by
      have := (List.getElem?_eq_some_iff.1 hj).1
      rw [rkC_len hq.ok, hyl] at this
      exact this
    obtain ⟨y, hy⟩ : ∃ y, ys[j / 23]? = some y := ⟨ys[j / 23]'(by omega), List.getElem?_eq_getElem _⟩
    obtain ⟨b', off', hA', hr'⟩ := hq.here (j / 23) y hy
    cases hA'
    obtain ⟨u', hu'⟩ : ∃ u', (rkv y).toList[j % 23]? = some u' := ⟨(rkv y).toList[j % 23]'(by rw [Array.length_toList, rkv_size (hq.ok y (List.mem_of_getElem? hy))]; omega), List.getElem?_eq_getElem _⟩
    have hg := rkC_get hq.ok hy hu'
    rw [show j / 23 * 23 + j % 23 = j by omega, hj] at hg
    obtain rfl := Option.some.inj hg
    have := hr' (j % 23) u hu'
    rw [show off + j / 23 * 23 + j % 23 = off + j by omega] at this
    rw [add_plain]
    exact this) (fun u hu => by
    unfold rkC rkL at hu
    obtain ⟨vv, hv, hu⟩ := List.mem_flatMap.1 hu
    obtain ⟨y, hy, rfl⟩ := List.mem_map.1 hv
    exact (Array.all_eq_true'.1 (rkv_one (hq.ok y hy))) u (by simpa [Value.cells] using hu)) (by unfold maxLen; omega) (by omega) hbase
  unfold Oper.wp execOp
  simp only [ho, resolve, invoke, builtin, Sem.run_bind, Sem.run_pure, Result.andThen_ok, List.map_toArray, List.map_cons, List.map_nil, hs, hx, hr]
  refine h v' w' ⟨?_, fun f hf => ?_⟩ g' hat
  · have e : rkC (xs ++ ys) = rkC xs ++ rkC ys := by simp [rkC, rkL]
    rw [e, List.length_append, hyl]
    exact o'
  · rcases List.mem_append.1 hf with hf | hf
    · exact hown.2 f hf
    · exact hq.ok f hf
theorem rkC_cons (a : Rk) (t : List Rk) : rkC (a :: t) = (rkv a).toList ++ rkC t := by simp [rkC, rkL, Value.cells]
theorem rkC_set {r : Rk} (hr : r.ok) : ∀ {xs : List Rk} {i : Nat}, (∀ x ∈ xs, x.ok) → i < xs.length → rkC (xs.set i r) = (rkC xs).take (i * 23) ++ ((rkv r).toList ++ (rkC xs).drop (i * 23 + 23))
  | [], i, _, h => by simp at h
  | a :: t, 0, hk, _ => by
    have ha : (rkv a).toList.length = 23 := by rw [Array.length_toList, rkv_size (hk a (List.mem_cons_self ..))]
    show rkC (r :: t) = _
    rw [rkC_cons, rkC_cons, Nat.zero_mul, List.take_zero, List.nil_append, Nat.zero_add]
    congr 1
    rw [List.drop_left' ha]
  | a :: t, i + 1, hk, h => by
    have ha : (rkv a).toList.length = 23 := by rw [Array.length_toList, rkv_size (hk a (List.mem_cons_self ..))]
    have hl := rkC_len (fun x hx => hk x (List.mem_cons_of_mem _ hx))
    have h' : i < t.length := by simpa using h
    show rkC (a :: t.set i r) = _
    rw [rkC_cons, rkC_set hr (fun x hx => hk x (List.mem_cons_of_mem _ hx)) h', rkC_cons]
    have e1 : ((rkv a).toList ++ rkC t).take ((i + 1) * 23) = (rkv a).toList ++ (rkC t).take (i * 23) := by
      rw [show (i + 1) * 23 = (rkv a).toList.length + i * 23 by omega, List.take_length_add_append]
    have e2 : ((rkv a).toList ++ rkC t).drop ((i + 1) * 23 + 23) = (rkC t).drop (i * 23 + 23) := by
      rw [show (i + 1) * 23 + 23 = (rkv a).toList.length + (i * 23 + 23) by omega, List.drop_length_add_append]
    rw [e1, e2, List.append_assoc]
theorem wp_set_rk {o : Oper} {a : Act} {w : World} {K : Act → World → Prop} {Q : Exit → Act → World → Prop} (x y : Operand) (ho : o.op = .store 32 x y) {base g n c : Nat} {xs : List Rk} (hown : RkO w base (.slice (some ⟨g, 0, none⟩) n c) xs) {i : Nat} (hi : i < xs.length) {r : Rk} (hk : r.ok) (hx : a.eval x = .pointer (some ⟨g, i * 23, none⟩)) (hy : a.eval y = .agg (rkv r))
    (h : ∀ w', RkO w' base (.slice (some ⟨g, 0, none⟩) n c) (xs.set i r) → (∀ k, k ≠ g → w'.heap[k]? = w.heap[k]?) → (∀ B w0, B ≤ g → Below B w0 w → Below B w0 w') → K (a.put o.dst undef) w') : o.wp Try.prog a w K Q := by
  obtain ⟨hl, hok⟩ := hown
  rcases hl.2 with ⟨e, _⟩ | ⟨g', cap, cur, e, hb, hg, hn, hc, hs, ht⟩
  · cases e
  · injection e with e1 e2 e3
    cases e1
    subst e2 e3
    have hr23 := rkv_size hk
    have hfit : i * 23 + (rkv r).size ≤ cur.size := by rw [hr23, hs]; omega
    refine wp_store_in 32 x y ho g (i * 23) (rkv r) hx hy hg hfit (by omega) (rk_size hk) (rkv_one hk) ?_
    refine h _ ⟨⟨?_, Or.inr ⟨g, c, splice cur (i * 23) (rkv r), ?_, hb, setRow_heap w g _ _ _ _ hg, ?_, hc, ?_, ?_⟩⟩, fun q hq => ?_⟩ (fun k hk => setRow_other w g k _ hk) (fun B w0 hB hbl => below_setRow hbl hB _)
    · rw [rkC_len (fun q hq => ?_)]
      rcases List.mem_or_eq_of_mem_set hq with hq | rfl
      · exact hok q hq
      · exact hk
    · rw [List.length_set]
    · rw [List.length_set]; exact hn
    · rw [splice_size hfit, hs]
    · rw [List.length_set, rkC_set hk hok hi, ← ht]
      have hcl : cur.toList.length = c * 23 := by rw [Array.length_toList, hs]
      unfold splice
      rw [hr23]
      show List.take (xs.length * 23) (cur.toList.take (i * 23) ++ ((rkv r).toList ++ cur.toList.drop (i * 23 + 23))) = _
      have hT : (cur.toList.take (i * 23)).length = i * 23 := by rw [List.length_take]; omega
      have hR : (rkv r).toList.length = 23 := by rw [Array.length_toList, hr23]
      have e1 : xs.length * 23 = (cur.toList.take (i * 23)).length + ((rkv r).toList.length + (xs.length * 23 - (i * 23 + 23))) := by rw [hT, hR]; omega
      rw [List.take_take, Nat.min_eq_left (by omega), List.drop_take]
      conv => lhs; rw [e1]
      rw [List.take_length_add_append, List.take_length_add_append]
    · rcases List.mem_or_eq_of_mem_set hq with hq | rfl
      · exact hok q hq
      · exact hk
end Go.Proofs.Ytjbdaeiefckkcaa
