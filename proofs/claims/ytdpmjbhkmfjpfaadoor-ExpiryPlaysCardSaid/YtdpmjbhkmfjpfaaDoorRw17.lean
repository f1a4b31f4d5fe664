/-
  slices.Delete, slices.Clone and slices.Insert of entries, in rows of the call's own. Conditions: those of the rows.
-/
import Derived.Test.YtdpmjbhkmfjpfaaDoorSr17
import Derived.Lib.AppendZerosOnto
import Derived.Lib.Overlaps
import Derived.Lib.SliceRun
import Derived.Laws.CopyOwn
import Derived.Deep.RegionLaw
namespace Go.Proofs.YtdpmjbhkmfjpfaaDoor
open Go.RowKit
set_option maxRecDepth 100000

section
variable {P : Program} {ops : Array Oper} {rest : List Oper} {o : Oper} {a : Act} {w : World} {Q : Exit → Act → World → Prop}
/-- A clear, a copy whose run is known. -/
theorem wp_clear_run {K : Act → World → Prop} (s : Operand) (t : TypeId) (ho : o.op = .call { callee := .builtin .clear, args := #[s], argTypes := #[t] }) (vs : Value) (hs : a.eval s = vs)
    {v' : Value} {w' : World} (hr : (Builtin.clear_ #[t] o.type #[vs]).run P w = .ok v' w') (h : K (a.put o.dst v') w') : o.wp P a w K Q := by
  unfold Oper.wp execOp
  simp only [ho, resolve, invoke, builtin, Sem.run_bind, Sem.run_pure, Result.andThen_ok, List.map_toArray, List.map_cons, List.map_nil, hs, hr]
  exact h
theorem wpList_clear_run (hgd : o.guard = none) (s : Operand) (t : TypeId) (ho : o.op = .call { callee := .builtin .clear, args := #[s], argTypes := #[t] }) (vs : Value) (hs : a.eval s = vs)
    {v' : Value} {w' : World} (hr : (Builtin.clear_ #[t] o.type #[vs]).run P w = .ok v' w') (h : wpList P ops Q rest (a.put o.dst v') w') : wpList P ops Q (o :: rest) a w :=
  wpList_plain hgd fun _ hK => wp_clear_run s t ho vs hs hr (hK _ _ h)
theorem wp_copy_run {K : Act → World → Prop} (d s : Operand) (t t' : TypeId) (ho : o.op = .call { callee := .builtin .copy, args := #[d, s], argTypes := #[t, t'] }) (v u : Value) (hd : a.eval d = v) (hs : a.eval s = u)
    {v' : Value} {w' : World} (hr : (Builtin.copy_ #[t, t'] o.type #[v, u]).run P w = .ok v' w') (h : K (a.put o.dst v') w') : o.wp P a w K Q := by
  unfold Oper.wp execOp
  simp only [ho, resolve, invoke, builtin, Sem.run_bind, Sem.run_pure, Result.andThen_ok, List.map_toArray, List.map_cons, List.map_nil, hd, hs, hr]
  exact h
theorem wpList_copy_run (hgd : o.guard = none) (d s : Operand) (t t' : TypeId) (ho : o.op = .call { callee := .builtin .copy, args := #[d, s], argTypes := #[t, t'] }) (v u : Value) (hd : a.eval d = v) (hs : a.eval s = u)
    {v' : Value} {w' : World} (hr : (Builtin.copy_ #[t, t'] o.type #[v, u]).run P w = .ok v' w') (h : wpList P ops Q rest (a.put o.dst v') w') : wpList P ops Q (o :: rest) a w :=
  wpList_plain hgd fun _ hK => wp_copy_run d s t t' ho v u hd hs hr (hK _ _ h)
end
/-- A row with a part of it written over. -/
def over (cur : Array Value) (k : Nat) (vs : List Value) : Array Value := (cur.toList.take k ++ vs ++ cur.toList.drop (k + vs.length)).toArray
theorem over_size {cur : Array Value} {k : Nat} {vs : List Value} (h : k + vs.length ≤ cur.size) : (over cur k vs).size = cur.size := by
  unfold over
  simp only [List.size_toArray, List.length_append, List.length_take, List.length_drop, Array.length_toList]
  omega
theorem over_get {cur : Array Value} {k : Nat} {vs : List Value} (h : k + vs.length ≤ cur.size) (j : Nat) : (over cur k vs)[j]? = if j < k then cur[j]? else if j < k + vs.length then vs[j - k]? else cur[j]? := by
  unfold over
  rw [List.getElem?_toArray, List.append_assoc, List.getElem?_append]
  simp only [List.length_take, Array.length_toList]
  rw [Nat.min_eq_left (by omega)]
  by_cases h1 : j < k
  · rw [if_pos h1, if_pos h1, List.getElem?_take, if_pos h1, Array.getElem?_toList]
  · rw [if_neg h1, if_neg h1, List.getElem?_append]
    by_cases h2 : j < k + vs.length
    · rw [if_pos h2, if_pos (by omega)]
    · rw [if_neg h2, if_neg (by omega), List.getElem?_drop, Array.getElem?_toList]
      congr 1
      omega
theorem row_take_get {cur : Array Value} {k : Nat} {l : List Value} (h : cur.toList.take k = l) {j : Nat} (hj : j < k) : cur[j]? = l[j]? := by
  rw [← h, List.getElem?_take, if_pos hj, Array.getElem?_toList]
theorem row_take_of {cur : Array Value} {k : Nat} {l : List Value} (hl : l.length = k) (h : ∀ j, j < k → cur[j]? = l[j]?) : cur.toList.take k = l := by
  apply List.ext_getElem?
  intro j
  rw [List.getElem?_take]
  by_cases hj : j < k
  · rw [if_pos hj, Array.getElem?_toList, h j hj]
  · rw [if_neg hj, List.getElem?_eq_none (by omega)]
theorem infoEn : (Tryd.prog.info? 45).map (fun i => (i.zero, i.size, i.bytes)) = some (some (.agg #[.int .i64 0, .int .u64 0]), 2, 16) := by kernel_rfl
theorem info_of17 {P : Program} {e : TypeId} {z : Value} {s b : Nat} (h : (P.info? e).map (fun i => (i.zero, i.size, i.bytes)) = some (some z, s, b)) : ∃ i, P.info? e = some i ∧ i.zero = some z ∧ i.size = s ∧ i.bytes = b := by
  cases hi : P.info? e with
  | none => rw [hi] at h; cases h
  | some i =>
    rw [hi] at h
    simp only [Option.map_some, Option.some.injEq, Prod.mk.injEq] at h
    exact ⟨i, rfl, h.1, h.2.1, h.2.2⟩
/-- append, copy, clear within a row of entries, as they run. -/
theorem run_app17 (w : World) (ty : TypeId) {g n c : Nat} {cur : Array Value} (hg : w.heap[g]? = some (.cells cur 45 (0, 0))) (hc : cur.size = c * 2) {ad : Addr} {m c' : Nat} {news : List Value} (hl : news.length = m * 2) (hn : ∀ j u, news[j]? = some u → w.cell? (ad.add j) = some u) (h1 : ∀ u ∈ news, u.oneCell' = true) (hroom : n + m ≤ c) :
    (Builtin.append_ #[26, 26] ty #[.slice (some ⟨g, 0, none⟩) n c, .slice (some ad) m c']).run Tryd.prog w = .ok (.slice (some ⟨g, 0, none⟩) (n + m) c) (w.setRow g (over cur (n * 2) news)) := by
  obtain ⟨i, h2, h3, h4, h5⟩ := info_of17 infoEn
  have h := run_append_room (P := Tryd.prog) w 26 ty 45 i Tryd.underlying26 h2 g n c cur hg ad m c' news (by rw [h4]; exact hl) hn h1 hroom (by rw [h4, hl]; omega)
  rw [h4] at h
  exact h
theorem run_clr17 (w : World) (ty : TypeId) {g k n c' : Nat} {cur : Array Value} (hg : w.heap[g]? = some (.cells cur 45 (0, 0))) (hn : 0 < n) (hfit : k + n * 2 ≤ cur.size) :
    (Builtin.clear_ #[26] ty #[.slice (some ⟨g, k, none⟩) n c']).run Tryd.prog w = .ok (.tuple #[]) (w.setRow g (over cur k (Builtin.zeroCells (Value.agg #[.int .i64 0, .int .u64 0]).cells n).toList)) := by
  obtain ⟨i, h2, h3, h4, h5⟩ := info_of17 infoEn
  have hz : (Builtin.zeroCells (Value.agg #[.int .i64 0, .int .u64 0]).cells n).toList.length = n * 2 := by
    rw [Array.length_toList, size_zeroCells]
    rfl
  have hone : ∀ v ∈ (Builtin.zeroCells (Value.agg #[.int .i64 0, .int .u64 0]).cells n).toList, v.oneCell' = true := by
    intro v hv
    simp only [Builtin.zeroCells, Array.toList_map, List.mem_map] at hv
    obtain ⟨j, _, rfl⟩ := hv
    have e : (Value.agg #[.int .i64 0, .int .u64 0]).cells = #[.int .i64 0, .int .u64 0] := rfl
    rw [e]
    have h2 : j % (#[Value.int .i64 0, Value.int .u64 0] : Array Value).size = 0 ∨ j % (#[Value.int .i64 0, Value.int .u64 0] : Array Value).size = 1 := by
      show j % 2 = 0 ∨ j % 2 = 1
      omega
    rcases h2 with h2 | h2 <;> rw [h2] <;> rfl
  have hst := run_storeCells_at Tryd.prog g k 45 (Builtin.zeroCells (Value.agg #[.int .i64 0, .int .u64 0]).cells n).toList 0 cur w hg (by rw [hz]; simpa using hfit) hone
  simp only [Nat.add_zero] at hst
  obtain ⟨n', rfl⟩ : ∃ n', n = n' + 1 := ⟨n - 1, by omega⟩
  simp [Builtin.clear_, run_underlying Tryd.underlying26, zeroValue, typeInfo, h2, h3, hst, over]
theorem run_cpy17 (w : World) (ty : TypeId) {g k dn dc sn sc : Nat} {cur : Array Value} {ad : Addr} {cs : List Value} (hg : w.heap[g]? = some (.cells cur 45 (0, 0))) (hl : cs.length = Nat.min sn dn * 2) (hn : ∀ j u, cs[j]? = some u → w.cell? (ad.add j) = some u) (h1 : ∀ u ∈ cs, u.oneCell' = true) (hfit : k + cs.length ≤ cur.size) :
    (Builtin.copy_ #[26, 26] ty #[.slice (some ⟨g, k, none⟩) dn dc, .slice (some ad) sn sc]).run Tryd.prog w = .ok (goInt (Nat.min sn dn)) (w.setRow g (over cur k cs)) := by
  obtain ⟨i, h2, h3, h4, h5⟩ := info_of17 infoEn
  have hf := run_firstCells_some (P := Tryd.prog) w 2 (Nat.min sn dn) ad sn sc cs hl hn
  have hst := run_storeCells_at Tryd.prog g k 45 cs 0 cur w hg (by simpa using hfit) h1
  simp only [Nat.add_zero] at hst
  simp [Builtin.copy_, run_underlying Tryd.underlying26, Builtin.lenOf, sizeOf, typeInfo, h2, h4, hf, hst, over]
--<< delete
set_option maxHeartbeats 4000000 in
theorem delete_any {w : World} {b c : Nat} {cur : Array Value} {xs : List En} (hb : w.heap[b]? = some (.cells cur 45 (0, 0))) (hn : xs.length ≤ c) (hm : c ≤ maxLen) (hs : cur.size = c * 2) (ht : cur.toList.take (xs.length * 2) = enC xs) {i j : Nat} (hij : i < j) (hj : j ≤ xs.length) :
    Calls Tryd.prog 26 #[.slice (some ⟨b, 0, none⟩) xs.length c, .int .i64 i, .int .i64 j] w fun e w' => e = .returned (.slice (some ⟨b, 0, none⟩) (i + (xs.length - j)) c) ∧ EO w' (.slice (some ⟨b, 0, none⟩) (i + (xs.length - j)) c) (xs.take i ++ xs.drop j) ∧ w.grownBy w' (some b) := by
  obtain ⟨n, hnn⟩ : ∃ n, n = xs.length := ⟨_, rfl⟩
  obtain ⟨r, hr⟩ : ∃ r, r = n - j := ⟨_, rfl⟩
  obtain ⟨k1, hk1⟩ : ∃ k1, k1 = i + r := ⟨_, rfl⟩
  rw [← hnn] at hn hj ht ⊢
  rw [← hr, ← hk1]
  obtain ⟨news, hnews⟩ : ∃ news, news = enC (xs.drop j) := ⟨_, rfl⟩
  have hnl : news.length = r * 2 := by rw [hnews, enC_length, List.length_drop]; omega
  have hlt : b < w.heap.size := (Array.getElem?_eq_some_iff.1 hb).1
  have hd : w.drew.heap[b]? = some (.cells cur 45 (0, 0)) := hb
  obtain ⟨A, hA, hsrc⟩ : ∃ A : Addr, (if c = j then some (⟨b, 0, none⟩ : Addr) else some ⟨b, j * 2, none⟩) = some A ∧ (∀ t u, news[t]? = some u → w.drew.cell? (A.add t) = some u) := by
    by_cases h : c = j
    · refine ⟨⟨b, 0, none⟩, by simp [h], fun t u hu => ?_⟩
      have h0 : news.length = 0 := by rw [hnl]; omega
      rw [List.length_eq_zero_iff.1 h0] at hu
      simp at hu
    · refine ⟨⟨b, j * 2, none⟩, by simp [h], fun t u hu => ?_⟩
      have ht2 : t < r * 2 := by rw [← hnl]; exact (List.getElem?_eq_some_iff.1 hu).1
      rw [hnews, ← enC_drop, List.getElem?_drop] at hu
      rw [add_plain, cell_of_row _ _ _ _ _ _ hd, row_take_get ht (by omega)]
      exact hu
  have hone : ∀ u ∈ news, u.oneCell' = true := hnews ▸ enC_one _
  have hrun : ∀ ty, (Builtin.append_ #[26, 26] ty #[.slice (some ⟨b, 0, none⟩) i c, .slice (some A) r (c - j)]).run Tryd.prog w.drew = .ok (.slice (some ⟨b, 0, none⟩) k1 c) (w.drew.setRow b (over cur (i * 2) news)) := fun ty => hk1 ▸ run_app17 w.drew ty hd hs hnl hsrc hone (by omega)
  obtain ⟨cur1, hc1⟩ : ∃ cur1, cur1 = over cur (i * 2) news := ⟨_, rfl⟩
  have hz1 : cur1.size = c * 2 := by rw [hc1, over_size (by omega), hs]
  rw [← hc1] at hrun
  obtain ⟨W1, hW1⟩ : ∃ W1, w.drew.setRow b cur1 = W1 := ⟨_, rfl⟩
  rw [hW1] at hrun
  have hb1 : W1.heap[b]? = some (.cells cur1 45 (0, 0)) := hW1 ▸ setRow_heap w.drew b _ _ _ _ hd
  have hg1 : w.grownBy W1 (some b) := hW1 ▸ ⟨rfl, rfl, rfl, by simp, fun k _ hk => setRow_other w.drew b k _ (fun e => hk (by rw [e]))⟩
  have hkn : k1 < n := by omega
  have hclr : ∃ zs : List Value, zs.length = (n - k1) * 2 ∧ ∀ ty, (Builtin.clear_ #[26] ty #[.slice (some ⟨b, k1 * 2, none⟩) (n - k1) (c - k1)]).run Tryd.prog W1 = .ok (.tuple #[]) (W1.setRow b (over cur1 (k1 * 2) zs)) := by
    refine ⟨(Builtin.zeroCells (Value.agg #[.int .i64 0, .int .u64 0]).cells (n - k1)).toList, by rw [Array.length_toList, size_zeroCells]; rfl, fun ty => ?_⟩
    exact run_clr17 W1 ty hb1 (by omega) (by omega)
  obtain ⟨zs, hzl, hclr⟩ := hclr
  have hEO : EO (W1.setRow b (over cur1 (k1 * 2) zs)) (.slice (some ⟨b, 0, none⟩) k1 c) (xs.take i ++ xs.drop j) := by
    have hfit : k1 * 2 + zs.length ≤ cur1.size := by omega
    refine EO.of (setRow_heap W1 b _ _ _ _ hb1) (by rw [List.length_append, List.length_take, List.length_drop]; omega) (by omega) hm (by rw [over_size hfit, hz1]) (row_take_of (by rw [enC_length, List.length_append, List.length_take, List.length_drop]; omega) fun t ht2 => ?_)
    rw [over_get hfit, if_pos ht2, hc1, over_get (by omega), enC_append, List.getElem?_append, enC_length, List.length_take]
    by_cases h1 : t < i * 2
    · rw [if_pos h1, if_pos (by omega), ← enC_take, List.getElem?_take, if_pos h1, row_take_get ht (by omega)]
    · rw [if_neg h1, if_pos (by omega), if_neg (by omega), hnews, show min i xs.length * 2 = i * 2 by omega]
  have hg2 : w.grownBy (W1.setRow b (over cur1 (k1 * 2) zs)) (some b) := hg1.trans ⟨rfl, rfl, rfl, by simp, fun k _ hk => setRow_other W1 b k _ (fun e => hk (by rw [e]))⟩
  have HC := Lib.hid (And.intro hrun (And.intro hclr (And.intro hEO hg2)))
  have hjn : (j : Int) ≤ (n : Int) := by omega
  have hij' : (i : Int) < (j : Int) := by omega
  have hnc : (n : Int) ≤ (c : Int) := by omega
  have hne : ¬ ((i : Int) = (j : Int)) := by omega
  have hic : i ≤ c := by omega
  have hjc : j ≤ c := by omega
  have hck : ¬ (c = k1) := by omega
  have hkn' : (k1 : Int) < (n : Int) := by omega
  have hrj : (n : Int) - (j : Int) = (r : Int) := by omega
  have hrj' : n - j = r := hr.symm
  unfold maxLen at hm
  have HA := Lib.hid hA
  clear hA hsrc hrun hclr hEO hg2 hg1 hb1 hW1 hz1 hc1 hone hd hb ht hs hnews hnl hzl hr hk1 hnn hlt
  go_enter Tryd.func26, Tryd.ntmps26
  go_wp2_with fail
  have hS : True := trivial
  refine rg_begin (fun _ => True) 8 (by kernel_rfl) rfl ?_
  refine rg_take 0 (v := ?rv1) rfl (by kernel_rfl) (by kernel_rfl) (by kernel_rfl) (fun _ _ _ h => h) (by rfl) hS (fun w2 hw2 => ?ry1) ?rr1
  case ry1 => ((try dsimp only at hw2); go_simp <;> with_reducible rfl)
  simp only [Act.put, List.setIfInBounds_toArray, List.set_cons_zero, List.set_cons_succ]
  refine rg_take 1 (v := ?rv2) rfl (by kernel_rfl) (by kernel_rfl) (by kernel_rfl) (fun _ _ _ h => h) (by rfl) hS (fun w2 hw2 => ?ry2) ?rr2
  case ry2 => ((try dsimp only at hw2); go_simp <;> with_reducible rfl)
  simp only [Act.put, List.setIfInBounds_toArray, List.set_cons_zero, List.set_cons_succ]
  refine rg_take 3 (v := ?rv3) rfl (by kernel_rfl) (by kernel_rfl) (by kernel_rfl) (fun _ _ _ h => h) (by rfl) hS (fun w2 hw2 => ?ry3) ?rr3
  case ry3 => ((try dsimp only at hw2); go_simp <;> with_reducible rfl)
  simp only [Act.put, List.setIfInBounds_toArray, List.set_cons_zero, List.set_cons_succ]
  refine rg_take 4 (v := ?rv4) rfl (by kernel_rfl) (by kernel_rfl) (by kernel_rfl) (fun _ _ _ h => h) (by rfl) hS (fun w2 hw2 => ?ry4) ?rr4
  case ry4 => ((try dsimp only at hw2); go_simp <;> with_reducible rfl)
  simp only [Act.put, List.setIfInBounds_toArray, List.set_cons_zero, List.set_cons_succ]
  refine rg_take 2 (v := ?rv5) rfl (by kernel_rfl) (by kernel_rfl) (by kernel_rfl) (fun _ _ _ h => h) (by rfl) hS (fun w2 hw2 => ?ry5) ?rr5
  case ry5 => ((try dsimp only at hw2); go_simp <;> with_reducible rfl)
  simp only [Act.put, List.setIfInBounds_toArray, List.set_cons_zero, List.set_cons_succ]
  refine rg_take 5 (v := ?rv6) rfl (by kernel_rfl) (by kernel_rfl) (by kernel_rfl) (fun _ _ _ h => h) (by rfl) hS (fun w2 hw2 => ?ry6) ?rr6
  case ry6 => ((try dsimp only at hw2); go_simp <;> with_reducible rfl)
  simp only [Act.put, List.setIfInBounds_toArray, List.set_cons_zero, List.set_cons_succ]
  refine rg_step 6 rfl (by kernel_rfl) (by rfl) (fun K hK => ?_)
  rw [HA.out]
  refine Lib.wp_append_run _ (.tmp 22) (.tmp 25) 26 26 rfl _ _ rfl rfl _ _ (HC.out.1 _) ?_
  refine hK.out _ _ hS ?_
  clear hK K
  try simp only [Act.put, List.setIfInBounds_toArray, List.set_cons_zero, List.set_cons_succ]
  refine rg_take 7 (v := ?rv7) rfl (by kernel_rfl) (by kernel_rfl) (by kernel_rfl) (fun _ _ _ h => h) (by rfl) hS (fun w2 hw2 => ?ry7) ?rr7
  case ry7 => ((try dsimp only at hw2); go_simp <;> with_reducible rfl)
  simp only [Act.put]
  refine rg_done (by kernel_rfl) ?_
  go_wp2_with (refine wpList_clear_run rfl (.tmp 31) 26 rfl _ rfl (HC.out.2.1 _) ?_)
  go_ret
  exact ⟨rfl, HC.out.2.2⟩
-->>
--<< clone
set_option maxHeartbeats 1000000 in
theorem clone_any {w : World} {b c n : Nat} {xs : List En} (hs : EnS w (some ⟨b, 0, none⟩) n c xs) (hn0 : 0 < n) (hbig : n ≤ 1000000) :
    Calls Tryd.prog 33 #[.slice (some ⟨b, 0, none⟩) n c] w fun e w' => ∃ v', e = .returned v' ∧ EO w' v' xs ∧ (∃ g, v'.ownBlock = some g ∧ w.heap.size ≤ g) ∧ Below w.heap.size w w' := by
  obtain ⟨i, h1, h2, h3, h4⟩ := info_of17 infoEn
  have q22 : ∀ (w : World) (a : Option Addr) (n c n' c' : Nat), (binOp .eql 26 (.slice a n c) (.slice none n' c')).run Tryd.prog w = .ok (.bool a.isNone) w := fun w a n c n' c' => Lib.run_eql_slice_nil w _ _ a n c n' c' Tryd.underlying26
  have hmade : (w.alloc (.cells #[] 45)).ownsRow 0 45 2 (.slice (some ⟨w.heap.size, 0, none⟩) 0 0) 0 [] := World.ownsRow_made w #[] 0 (Nat.zero_le _) (Nat.zero_le _) rfl
  have hl : (enC xs).length = n * 2 := by rw [enC_length, hs.len]
  have hsrc : ∀ j u, (enC xs)[j]? = some u → (w.alloc (.cells #[] 45)).cell? ((⟨b, 0, none⟩ : Addr).add j) = some u := fun j u hj => by
    have hj2 : j < n * 2 := by rw [← hl]; exact (List.getElem?_eq_some_iff.1 hj).1
    have hs2 := hs.later ((Below.refl w.heap.size w).alloc (Nat.le_refl _) (.cells #[] 45)) (Nat.le_refl _)
    obtain ⟨x, hx⟩ : ∃ x, xs[j / 2]? = some x := ⟨xs[j / 2]'(by have := hs.len; omega), List.getElem?_eq_getElem _⟩
    obtain ⟨b', off, e, r1, r2⟩ := hs2.here _ _ hx
    cases e
    obtain ⟨g1, g2⟩ := enC_get hx
    rw [add_plain]
    rcases (show j = j / 2 * 2 ∨ j = j / 2 * 2 + 1 by omega) with e | e
    · rw [e, g1] at hj
      rw [e, ← Option.some.inj hj]
      exact r1
    · rw [e, g2] at hj
      rw [e, ← Option.some.inj hj]
      exact r2
  have hlen := hs.len
  have HC := Lib.hid (And.intro hmade (And.intro hsrc hl))
  clear hmade hsrc hl hs
  go_enter Tryd.func33, Tryd.ntmps33
  go_wp2_with (refine wpList_append_own_at _ rfl (.tmp 5) (.tmp 6) 26 rfl 0 45 i _ 2 16 Tryd.underlying26 h1 h2 h3 h4 (by kernel_rfl) (by decide) _ 0 _ rfl HC.out.1 ⟨b, 0, none⟩ n c (enC xs) rfl HC.out.2.2 HC.out.2.1 (enC_one xs) (by unfold maxLen; omega) (by omega) (Nat.zero_le _) ?_; intro v' w' hown hg hnil hat)
  have HH := Lib.hid (And.intro hown (And.intro hg hat))
  have HN := Lib.hid hnil
  clear hown hg hat hnil
  go_wp2_with fail
  go_ret
  refine ⟨v', rfl, ?_, ?_, ?_⟩
  · have h := HH.out.1
    rw [Nat.zero_add, List.nil_append, ← hlen] at h
    exact h
  · rcases HH.out.2.2 with h | h
    · exact ⟨w.heap.size, h, Nat.le_refl _⟩
    · exact ⟨_, h, by simp⟩
  · exact ((Below.refl _ w).alloc (Nat.le_refl _) _).grown HH.out.2.1 (by simp) (fun k hk => Nat.le_of_eq (Option.some.inj hk))
-->>
--<< insert
theorem EO.made {w : World} {b c : Nat} {cur : Array Value} {xs : List En} {x : En} {i n : Nat} (hb : w.heap[b]? = some (.cells cur 45 (0, 0))) (hn : xs.length = n) (hi : i ≤ n) (hc : n + 1 ≤ c) (hm : c ≤ maxLen) (hs : cur.size = c * 2)
    (h1 : ∀ j, j < i * 2 → cur[j]? = (enC xs)[j]?) (h2 : cur[i * 2]? = some (.int .i64 x.id)) (h3 : cur[i * 2 + 1]? = some (.int .u64 x.at_)) (h4 : ∀ j, i * 2 + 2 ≤ j → j < n * 2 + 2 → cur[j]? = (enC xs)[j - 2]?) : EO w (.slice (some ⟨b, 0, none⟩) (n + 1) c) (xs.take i ++ x :: xs.drop i) := by
  refine EO.of hb (by rw [List.length_append, List.length_cons, List.length_take, List.length_drop]; omega) hc hm hs (row_take_of (by rw [enC_length, List.length_append, List.length_cons, List.length_take, List.length_drop]; omega) fun t ht => ?_)
  rw [enC_append, enC_cons, List.getElem?_append, enC_length, List.length_take, Nat.min_eq_left (by omega)]
  by_cases c1 : t < i * 2
  · rw [if_pos c1, h1 t c1, ← enC_take, List.getElem?_take, if_pos c1]
  · rw [if_neg c1]
    by_cases c2 : t = i * 2
    · rw [c2, Nat.sub_self, h2]; rfl
    · by_cases c3 : t = i * 2 + 1
      · rw [c3, Nat.add_sub_cancel_left, h3]; rfl
      · rw [h4 t (by omega) (by omega), show t - i * 2 = (t - 2 - i * 2) + 1 + 1 by omega, List.getElem?_cons_succ, List.getElem?_cons_succ, ← enC_drop, List.getElem?_drop]
        congr 1
        omega
theorem en_src {w : World} {b : Nat} {cur : Array Value} {T : TypeId} {xs : List En} (hb : w.heap[b]? = some (.cells cur T (0, 0))) {i : Nat} (h : ∀ j, i * 2 ≤ j → j < xs.length * 2 → cur[j]? = (enC xs)[j]?) : ∀ t u, (enC (xs.drop i))[t]? = some u → w.cell? ((⟨b, i * 2, none⟩ : Addr).add t) = some u := fun t u hu => by
  have hlt : t < (xs.length - i) * 2 := by
    have := (List.getElem?_eq_some_iff.1 hu).1
    rw [enC_length, List.length_drop] at this
    exact this
  rw [← enC_drop, List.getElem?_drop] at hu
  rw [add_plain, cell_of_row _ _ _ _ _ _ hb, h _ (by omega) (by omega)]
  exact hu
set_option maxHeartbeats 4000000 in
theorem insert_end {w : World} {v : Value} {xs : List En} {x : En} {vb : Nat} (h : EO w v xs) (hv : w.heap[vb]? = some (.cells #[.int .i64 x.id, .int .u64 x.at_] 45 (0, 0))) (hbig : xs.length ≤ 100000) :
    Calls Tryd.prog 45 #[v, .int .i64 xs.length, .slice (some ⟨vb, 0, none⟩) 1 1] w fun e w' => ∃ v', e = .returned v' ∧ EO w' v' (xs.take xs.length ++ x :: xs.drop xs.length) ∧ w.grownBy w' v.ownBlock ∧ (v'.ownBlock = v.ownBlock ∨ v'.ownBlock = some w.heap.size) := by
  obtain ⟨i, h1, h2, h3, h4⟩ := info_of17 infoEn
  have hsrc : ∀ j u, [Value.int .i64 x.id, .int .u64 x.at_][j]? = some u → w.cell? ((⟨vb, 0, none⟩ : Addr).add j) = some u := fun j u hj => by
    rw [add_plain, Nat.zero_add, cell_of_row _ _ _ _ _ _ hv, ← Array.getElem?_toList]
    exact hj
  have hone : ∀ u ∈ [Value.int .i64 x.id, .int .u64 x.at_], u.oneCell' = true := fun u hu => by
    simp only [List.mem_cons, List.not_mem_nil, or_false] at hu
    rcases hu with rfl | rfl <;> rfl
  have hq : EO w v xs := h
  unfold EO at hq
  rw [List.take_length, List.drop_length]
  obtain ⟨A, c, rfl, hs, hA⟩ := EnS.of_own h
  have hcap := hs.cap
  have hmax := hs.max
  unfold maxLen at hmax
  obtain ⟨n, hn⟩ : ∃ n, n = xs.length := ⟨_, rfl⟩
  rw [← hn] at hcap hbig hq ⊢
  have HC := Lib.hid (And.intro hq (And.intro hsrc hone))
  have HN := Lib.hid hn
  clear hs h hq hsrc hone hv hn
  rcases hA with rfl | ⟨b, rfl⟩
  all_goals
    go_enter Tryd.func45, Tryd.ntmps45
    go_wp2_with (at_builtin; refine wpList_append_own_at _ rfl (.tmp 23) (.tmp 24) 26 rfl 0 45 i _ 2 16 Tryd.underlying26 h1 h2 h3 h4 (by kernel_rfl) (by decide) _ n _ rfl HC.out.1 ⟨vb, 0, none⟩ 1 1 _ rfl rfl HC.out.2.1 HC.out.2.2 (by unfold maxLen; omega) (by omega) (Nat.zero_le _) ?_; intro v' w' hown hg hnil hat)
    all_goals
      have HH := Lib.hid (And.intro hown (And.intro hg hat))
      clear hown hg hat hnil
      go_ret
      refine ⟨v', rfl, ?_, HH.out.2.1, HH.out.2.2⟩
      have h := HH.out.1
      unfold EO
      rw [List.length_append, ← HN.out, enC_append]
      exact h
set_option maxHeartbeats 4000000 in
theorem insert_room {w : World} {b c n i : Nat} {cur : Array Value} {xs : List En} {x : En} {vb : Nat} (hb : w.heap[b]? = some (.cells cur 45 (0, 0))) (hn : xs.length = n) (hc : n + 1 ≤ c) (hm : c ≤ maxLen) (hs : cur.size = c * 2) (ht : cur.toList.take (n * 2) = enC xs) (hi : i < n)
    (hv : w.heap[vb]? = some (.cells #[.int .i64 x.id, .int .u64 x.at_] 45 (0, 0))) (hvb : vb ≠ b) :
    Calls Tryd.prog 45 #[.slice (some ⟨b, 0, none⟩) n c, .int .i64 i, .slice (some ⟨vb, 0, none⟩) 1 1] w fun e w' => e = .returned (.slice (some ⟨b, 0, none⟩) (n + 1) c) ∧ EO w' (.slice (some ⟨b, 0, none⟩) (n + 1) c) (xs.take i ++ x :: xs.drop i) ∧ w.grownBy w' (some b) := by
  have hov : ∀ lb cb, (callFunc 51 #[.slice (some ⟨vb, 0, none⟩) 1 1, .slice (some ⟨b, (i + 1) * 2, none⟩) lb cb]).run Tryd.prog w = .ok (.value (.bool false)) w := fun lb cb => by
    rw [run_callFunc_extern Tryd.func51 (by kernel_rfl) (by kernel_rfl) (by kernel_rfl) (e := Extern.SlicesOverlaps.overlaps #[26, 26] #[4]) (by kernel_rfl)]
    rw [Lib.run_overlaps_apart w 26 4 45 Tryd.underlying26 2 (fun w => by kernel_rfl) ⟨vb, 0, none⟩ ⟨b, (i + 1) * 2, none⟩ 1 1 lb cb hvb 45 45 2 cur.size (by simp [World.shape?, hv]) (by simp [World.shape?, hb]) (by omega) (by simp [World.frozen?, hv]) (by simp [World.frozen?, hv])]
    rfl
  have hd : w.drew.heap[b]? = some (.cells cur 45 (0, 0)) := hb
  have hmv : (enC (xs.drop i)).length = (n - i) * 2 := by rw [enC_length, List.length_drop, hn]
  have hmin : Nat.min (n + 1 - i) (n - i) = n - i := by simp only [Nat.min_def]; split <;> omega
  have hc1 : ∀ ty dc sc, (Builtin.copy_ #[26, 26] ty #[.slice (some ⟨b, (i + 1) * 2, none⟩) (n - i) dc, .slice (some ⟨b, i * 2, none⟩) (n + 1 - i) sc]).run Tryd.prog w.drew = .ok (goInt ((n - i : Nat) : Int)) (w.drew.setRow b (over cur ((i + 1) * 2) (enC (xs.drop i)))) := fun ty dc sc => by
    rw [run_cpy17 w.drew ty hd (by rw [hmv, hmin]) (en_src hd fun j h1 h2 => row_take_get ht (by omega)) (enC_one _) (by omega), hmin]
  obtain ⟨cur1, hcu1⟩ : ∃ cur1, cur1 = over cur ((i + 1) * 2) (enC (xs.drop i)) := ⟨_, rfl⟩
  have hz1 : cur1.size = c * 2 := by rw [hcu1, over_size (by omega), hs]
  rw [← hcu1] at hc1
  obtain ⟨W1, hW1⟩ : ∃ W1, w.drew.setRow b cur1 = W1 := ⟨_, rfl⟩
  rw [hW1] at hc1
  have hb1 : W1.heap[b]? = some (.cells cur1 45 (0, 0)) := hW1 ▸ setRow_heap w.drew b _ _ _ _ hd
  have hv1 : W1.heap[vb]? = some (.cells #[.int .i64 x.id, .int .u64 x.at_] 45 (0, 0)) := hW1 ▸ (setRow_other w.drew b vb _ hvb).trans hv
  have hg1 : w.grownBy W1 (some b) := hW1 ▸ ⟨rfl, rfl, rfl, by simp, fun k _ hk => setRow_other w.drew b k _ (fun e => hk (by rw [e]))⟩
  have hone : ∀ u ∈ [Value.int .i64 x.id, .int .u64 x.at_], u.oneCell' = true := fun u hu => by
    simp only [List.mem_cons, List.not_mem_nil, or_false] at hu
    rcases hu with rfl | rfl <;> rfl
  have hmin2 : Nat.min 1 (n + 1 - i) = 1 := by simp only [Nat.min_def]; split <;> omega
  have hc2 : ∀ ty dc, (Builtin.copy_ #[26, 26] ty #[.slice (some ⟨b, i * 2, none⟩) (n + 1 - i) dc, .slice (some ⟨vb, 0, none⟩) 1 1]).run Tryd.prog W1 = .ok (goInt ((1 : Nat) : Int)) (W1.setRow b (over cur1 (i * 2) [.int .i64 x.id, .int .u64 x.at_])) := fun ty dc => by
    rw [run_cpy17 (cs := [.int .i64 x.id, .int .u64 x.at_]) W1 ty hb1 (by rw [hmin2]; rfl) (fun j u hj => by rw [add_plain, Nat.zero_add, cell_of_row _ _ _ _ _ _ hv1, ← Array.getElem?_toList]; exact hj) hone (by simp; omega), hmin2]
  have hEO : EO (W1.setRow b (over cur1 (i * 2) [.int .i64 x.id, .int .u64 x.at_])) (.slice (some ⟨b, 0, none⟩) (n + 1) c) (xs.take i ++ x :: xs.drop i) := by
    have hfit : i * 2 + [Value.int .i64 x.id, .int .u64 x.at_].length ≤ cur1.size := by simp; omega
    have hfit2 : (i + 1) * 2 + (enC (xs.drop i)).length ≤ cur.size := by omega
    refine EO.made (setRow_heap W1 b _ _ _ _ hb1) hn (by omega) hc hm (by rw [over_size hfit, hz1]) (fun j hj => ?_) ?_ ?_ (fun j h1 h2 => ?_)
    · rw [over_get hfit, if_pos hj, hcu1, over_get hfit2, if_pos (by omega), row_take_get ht (by omega)]
    · rw [over_get hfit, if_neg (by omega), if_pos (by simp), Nat.sub_self]; rfl
    · rw [over_get hfit, if_neg (by omega), if_pos (by simp), Nat.add_sub_cancel_left]; rfl
    · rw [over_get hfit, if_neg (by omega), if_neg (by simp; omega), hcu1, over_get hfit2, if_neg (by omega), if_pos (by omega), ← enC_drop, List.getElem?_drop]
      congr 1
      omega
  have hg2 : w.grownBy (W1.setRow b (over cur1 (i * 2) [.int .i64 x.id, .int .u64 x.at_])) (some b) := hg1.trans ⟨rfl, rfl, rfl, by simp, fun k _ hk => setRow_other W1 b k _ (fun e => hk (by rw [e]))⟩
  have HC := Lib.hid (And.intro hov (And.intro hc1 (And.intro hc2 (And.intro hEO hg2))))
  unfold maxLen at hm
  have hz2 : ¬ ((i : Int) = (n : Int)) := by omega
  have hin : i ≤ n := by omega
  have hb3 : (i : Int) ≤ (n : Int) + 1 := by omega
  have hnc : n ≤ c := by omega
  have hic : i ≤ c := by omega
  have hck : ¬ (c = i) := by omega
  have hck1 : ¬ (c = i + 1) := by omega
  have hin1 : i + 1 ≤ n + 1 := by omega
  clear hov hc1 hc2 hEO hg2 hg1 hb1 hv1 hW1 hz1 hcu1 hd hb ht hs hmv hmin hmin2 hone hv hn
  go_enter Tryd.func45, Tryd.ntmps45
  go_wp2_with (simp only [HC.out.1])
  have hw1 : IntKind.i64.wrap ((i : Int) + 1) = (i : Int) + 1 := by rw [IntKind.wrap_i64]; omega
  have hw2 : (0 : Int) ≤ (i : Int) + 1 := by omega
  have hw3 : (i : Int) + 1 ≤ (n : Int) + 1 := by omega
  have hw4 : ((i : Int) + 1).toNat = i + 1 := by omega
  have hS : True := trivial
  refine rg_begin (fun _ => True) 9 (by kernel_rfl) rfl ?_
  refine rg_take 0 (v := ?rv8) rfl (by kernel_rfl) (by kernel_rfl) (by kernel_rfl) (fun _ _ _ h => h) (by rfl) hS (fun w2 hw2 => ?ry8) ?rr8
  case ry8 => ((try dsimp only at hw2); go_simp <;> with_reducible rfl)
  simp only [Act.put, List.setIfInBounds_toArray, List.set_cons_zero, List.set_cons_succ]
  refine rg_take 1 (v := ?rv9) rfl (by kernel_rfl) (by kernel_rfl) (by kernel_rfl) (fun _ _ _ h => h) (by rfl) hS (fun w2 hw2 => ?ry9) ?rr9
  case ry9 => ((try dsimp only at hw2); go_simp <;> with_reducible rfl)
  simp only [Act.put, List.setIfInBounds_toArray, List.set_cons_zero, List.set_cons_succ]
  refine rg_take 2 (v := ?rv10) rfl (by kernel_rfl) (by kernel_rfl) (by kernel_rfl) (fun _ _ _ h => h) (by rfl) hS (fun w2 hw2 => ?ry10) ?rr10
  case ry10 => ((try dsimp only at hw2); go_simp <;> with_reducible rfl)
  simp only [Act.put, List.setIfInBounds_toArray, List.set_cons_zero, List.set_cons_succ]
  refine rg_take 5 (v := ?rv11) rfl (by kernel_rfl) (by kernel_rfl) (by kernel_rfl) (fun _ _ _ h => h) (by rfl) hS (fun w2 hw2 => ?ry11) ?rr11
  case ry11 => ((try dsimp only at hw2); go_simp <;> with_reducible rfl)
  simp only [Act.put, List.setIfInBounds_toArray, List.set_cons_zero, List.set_cons_succ]
  refine rg_take 6 (v := ?rv12) rfl (by kernel_rfl) (by kernel_rfl) (by kernel_rfl) (fun _ _ _ h => h) (by rfl) hS (fun w2 hw2 => ?ry12) ?rr12
  case ry12 => ((try dsimp only at hw2); go_simp <;> with_reducible rfl)
  simp only [Act.put, List.setIfInBounds_toArray, List.set_cons_zero, List.set_cons_succ]
  refine rg_take 3 (v := ?rv13) rfl (by kernel_rfl) (by kernel_rfl) (by kernel_rfl) (fun _ _ _ h => h) (by rfl) hS (fun w2 hw2 => ?ry13) ?rr13
  case ry13 => ((try dsimp only at hw2); go_simp <;> with_reducible rfl)
  simp only [Act.put, List.setIfInBounds_toArray, List.set_cons_zero, List.set_cons_succ]
  refine rg_take 7 (v := ?rv14) rfl (by kernel_rfl) (by kernel_rfl) (by kernel_rfl) (fun _ _ _ h => h) (by rfl) hS (fun w2 hw2 => ?ry14) ?rr14
  case ry14 => ((try dsimp only at hw2); go_simp <;> with_reducible rfl)
  simp only [Act.put, List.setIfInBounds_toArray, List.set_cons_zero, List.set_cons_succ]
  refine rg_take 4 (v := ?rv15) rfl (by kernel_rfl) (by kernel_rfl) (by kernel_rfl) (fun _ _ _ h => h) (by rfl) hS (fun w2 hw2 => ?ry15) ?rr15
  case ry15 => ((try dsimp only at hw2); go_simp <;> with_reducible rfl)
  simp only [Act.put, List.setIfInBounds_toArray, List.set_cons_zero, List.set_cons_succ]
  refine rg_step 8 rfl (by kernel_rfl) (by rfl) (fun K hK => ?_)
  refine wp_copy_run (.tmp 73) (.tmp 76) 26 26 rfl _ _ rfl rfl (HC.out.2.1 _ _ _) ?_
  refine hK.out _ _ hS ?_
  clear hK K
  try simp only [Act.put, List.setIfInBounds_toArray, List.set_cons_zero, List.set_cons_succ]
  refine rg_done (by kernel_rfl) ?_
  go_wp2_with (refine wpList_copy_run rfl (.tmp 80) (.tmp 81) 26 26 rfl _ _ rfl rfl (HC.out.2.2.1 _ _) ?_)
  go_ret
  exact ⟨rfl, HC.out.2.2.2⟩
set_option maxHeartbeats 4000000 in
theorem insert_grow {w : World} {b c n i : Nat} {cur : Array Value} {xs : List En} {x : En} {vb : Nat} (hb : w.heap[b]? = some (.cells cur 45 (0, 0))) (hn : xs.length = n) (hnc : n ≤ c) (hc : c < n + 1) (hbig : n ≤ 100000) (ht : cur.toList.take (n * 2) = enC xs) (hi : i < n)
    (hv : w.heap[vb]? = some (.cells #[.int .i64 x.id, .int .u64 x.at_] 45 (0, 0))) :
    Calls Tryd.prog 45 #[.slice (some ⟨b, 0, none⟩) n c, .int .i64 i, .slice (some ⟨vb, 0, none⟩) 1 1] w fun e w' => ∃ G, e = .returned (.slice (some ⟨w.heap.size, 0, none⟩) (n + 1) G) ∧ EO w' (.slice (some ⟨w.heap.size, 0, none⟩) (n + 1) G) (xs.take i ++ x :: xs.drop i) ∧ Below w.heap.size w w' := by
  obtain ⟨i0, h1, h2, h3, h4⟩ := info_of17 infoEn
  have hlb : b < w.heap.size := (Array.getElem?_eq_some_iff.1 hb).1
  have hlv : vb < w.heap.size := (Array.getElem?_eq_some_iff.1 hv).1
  have hold : (Builtin.firstCells i0.size i (.slice (some ⟨b, 0, none⟩) i c)).run Tryd.prog w.drew = .ok (enC (xs.take i)).toArray w.drew := by
    rw [h3]
    refine run_firstCells_some (P := Tryd.prog) w.drew 2 i ⟨b, 0, none⟩ i c (enC (xs.take i)) (by rw [enC_length, List.length_take]; omega) (fun j v hj => ?_)
    have hlt : j < i * 2 := by
      have := (List.getElem?_eq_some_iff.1 hj).1
      rw [enC_length, List.length_take] at this
      omega
    rw [← enC_take, List.getElem?_take, if_pos hlt] at hj
    rw [add_plain, Nat.zero_add, cell_of_row w.drew b j cur _ _ hb, row_take_get ht (by omega)]
    exact hj
  have hik : i + (n + 1 - i) = n + 1 := by omega
  obtain ⟨G, hG⟩ : ∃ G, G = grownCap w (n + 1) c 45 := ⟨_, rfl⟩
  have hGge : n + 1 ≤ G := hG ▸ grownCap_ge w (n + 1) c _
  have hGm : G ≤ maxLen := hG ▸ grownCap_le_maxLen w (n + 1) c _ (by unfold maxLen; omega)
  obtain ⟨ROW, hROW⟩ : ∃ ROW : Array Value, ROW = (enC (xs.take i)).toArray ++ Builtin.zeroCells (Value.agg #[.int .i64 0, .int .u64 0]).cells (n + 1 - i) ++ Builtin.zeroCells (Value.agg #[.int .i64 0, .int .u64 0]).cells (G - (n + 1)) := ⟨_, rfl⟩
  have hRs : ROW.size = G * 2 := by
    rw [hROW, Array.size_append, Array.size_append, size_zeroCells, size_zeroCells, List.size_toArray, enC_length, List.length_take]
    show min i xs.length * 2 + (n + 1 - i) * 2 + (G - (n + 1)) * 2 = G * 2
    omega
  have hR0 : ∀ j, j < i * 2 → ROW[j]? = (enC xs)[j]? := fun j hj => by
    have hl : (enC (xs.take i)).length = i * 2 := by rw [enC_length, List.length_take]; omega
    rw [hROW, Array.getElem?_append_left (by rw [Array.size_append, List.size_toArray]; omega), Array.getElem?_append_left (by rw [List.size_toArray]; omega), List.getElem?_toArray, ← enC_take, List.getElem?_take, if_pos hj]
  obtain ⟨W1, hW1⟩ : ∃ W1, w.drew.alloc (.cells ROW 45) = W1 := ⟨_, rfl⟩
  have hrz : ∀ ty, (Builtin.append_ #[26, 3] ty #[.slice (some ⟨b, 0, none⟩) i c, .int .i64 ((n : Int) + 1 - (i : Int))]).run Tryd.prog w = .ok (.slice (some ⟨w.heap.size, 0, none⟩) (n + 1) G) W1 := fun ty => by
    have h := Lib.run_append_grow_zeros w 26 3 ty 45 i0 _ .i64 .i64 Tryd.underlying26 Tryd.underlying3 h1 h2 (some ⟨b, 0, none⟩) i c _ hold (n + 1 - i) (by omega) (by rw [h3]; omega) (by omega) (by omega) (by rw [h4]; omega) (by rw [h4, hik]; exact growslice_fits hc (by omega))
    rw [hik, ← hG, ← hROW, hW1] at h
    rw [show (n : Int) + 1 - (i : Int) = ((n + 1 - i : Nat) : Int) by omega]
    exact h
  have hN : W1.heap[w.heap.size]? = some (.cells ROW 45 (0, 0)) := hW1 ▸ heap_alloc_new w.drew _
  have hB1 : Below w.heap.size w W1 := hW1 ▸ (below_of_drew (Below.refl w.heap.size w)).alloc (Nat.le_refl _) _
  have hv1 : W1.heap[vb]? = some (.cells #[.int .i64 x.id, .int .u64 x.at_] 45 (0, 0)) := (hB1.block vb hlv).trans hv
  have hb1 : W1.heap[b]? = some (.cells cur 45 (0, 0)) := (hB1.block b hlb).trans hb
  have hone : ∀ u ∈ [Value.int .i64 x.id, .int .u64 x.at_], u.oneCell' = true := fun u hu => by
    simp only [List.mem_cons, List.not_mem_nil, or_false] at hu
    rcases hu with rfl | rfl <;> rfl
  have hmin2 : Nat.min 1 (n + 1 - i) = 1 := by simp only [Nat.min_def]; split <;> omega
  obtain ⟨row2, hr2⟩ : ∃ row2, row2 = over ROW (i * 2) [.int .i64 x.id, .int .u64 x.at_] := ⟨_, rfl⟩
  have hfit1 : i * 2 + [Value.int .i64 x.id, .int .u64 x.at_].length ≤ ROW.size := by simp; omega
  have hz2 : row2.size = G * 2 := by rw [hr2, over_size hfit1, hRs]
  obtain ⟨W2, hW2⟩ : ∃ W2, W1.setRow w.heap.size row2 = W2 := ⟨_, rfl⟩
  have hc1 : ∀ ty dc, (Builtin.copy_ #[26, 26] ty #[.slice (some ⟨w.heap.size, i * 2, none⟩) (n + 1 - i) dc, .slice (some ⟨vb, 0, none⟩) 1 1]).run Tryd.prog W1 = .ok (goInt ((1 : Nat) : Int)) W2 := fun ty dc => by
    rw [run_cpy17 (cs := [.int .i64 x.id, .int .u64 x.at_]) W1 ty hN (by rw [hmin2]; rfl) (fun j u hj => by rw [add_plain, Nat.zero_add, cell_of_row _ _ _ _ _ _ hv1, ← Array.getElem?_toList]; exact hj) hone hfit1, hmin2, ← hr2, hW2]
  have hN2 : W2.drew.heap[w.heap.size]? = some (.cells row2 45 (0, 0)) := hW2 ▸ setRow_heap W1 w.heap.size _ _ _ _ hN
  have hB2 : Below w.heap.size w W2.drew := below_of_drew (hW2 ▸ below_setRow hB1 (Nat.le_refl _) _)
  have hb2 : W2.drew.heap[b]? = some (.cells cur 45 (0, 0)) := (hB2.block b hlb).trans hb
  have hmv : (enC (xs.drop i)).length = (n - i) * 2 := by rw [enC_length, List.length_drop, hn]
  have hmin : Nat.min (n - i) (n - i) = n - i := by simp only [Nat.min_def]; split <;> omega
  have hc2 : ∀ ty dc sc, (Builtin.copy_ #[26, 26] ty #[.slice (some ⟨w.heap.size, (i + 1) * 2, none⟩) (n - i) dc, .slice (some ⟨b, i * 2, none⟩) (n - i) sc]).run Tryd.prog W2.drew = .ok (goInt ((n - i : Nat) : Int)) (W2.drew.setRow w.heap.size (over row2 ((i + 1) * 2) (enC (xs.drop i)))) := fun ty dc sc => by
    rw [run_cpy17 W2.drew ty hN2 (by rw [hmv, hmin]) (en_src hb2 fun j h1 h2 => row_take_get ht (by omega)) (enC_one _) (by omega), hmin]
  have hEO : EO (W2.drew.setRow w.heap.size (over row2 ((i + 1) * 2) (enC (xs.drop i)))) (.slice (some ⟨w.heap.size, 0, none⟩) (n + 1) G) (xs.take i ++ x :: xs.drop i) := by
    have hfit2 : (i + 1) * 2 + (enC (xs.drop i)).length ≤ row2.size := by omega
    refine EO.made (setRow_heap W2.drew w.heap.size _ _ _ _ hN2) hn (by omega) hGge hGm (by rw [over_size hfit2, hz2]) (fun j hj => ?_) ?_ ?_ (fun j h1 h2 => ?_)
    · rw [over_get hfit2, if_pos (by omega), hr2, over_get hfit1, if_pos hj, hR0 j hj]
    · rw [over_get hfit2, if_pos (by omega), hr2, over_get hfit1, if_neg (by omega), if_pos (by simp), Nat.sub_self]; rfl
    · rw [over_get hfit2, if_pos (by omega), hr2, over_get hfit1, if_neg (by omega), if_pos (by simp), Nat.add_sub_cancel_left]; rfl
    · rw [over_get hfit2, if_neg (by omega), if_pos (by omega), ← enC_drop, List.getElem?_drop]
      congr 1
      omega
  have hB3 : Below w.heap.size w (W2.drew.setRow w.heap.size (over row2 ((i + 1) * 2) (enC (xs.drop i)))) := below_setRow hB2 (Nat.le_refl _) _
  obtain ⟨Z, hZ⟩ : ∃ Z, Z = w.heap.size := ⟨_, rfl⟩
  rw [← hZ] at hrz hc1 hc2 hEO hB3 ⊢
  have HC := Lib.hid (And.intro hrz (And.intro hc1 (And.intro hc2 (And.intro hEO hB3))))
  have hz2 : ¬ ((i : Int) = (n : Int)) := by omega
  have hin : i ≤ n := by omega
  have hb3 : (i : Int) ≤ (n : Int) + 1 := by omega
  have hic : i ≤ c := by omega
  have hck : ¬ (c = i) := by omega
  have hGi : i ≤ G := by omega
  have hGk : ¬ (G = i) := by omega
  have hGk1 : ¬ (G = i + 1) := by omega
  have hin1 : i + 1 ≤ n + 1 := by omega
  have hcn : (c : Int) < (n : Int) + 1 := by omega
  have hGc : n + 1 ≤ G := hGge
  clear hrz hc1 hc2 hEO hB3 hZ hN hB1 hv1 hb1 hone hmin2 hr2 hfit1 hz2 hW2 hN2 hB2 hb2 hmv hmin hRs hR0 hW1 hROW hGge hG hik hold hlb hlv hb hv ht hn h1 h2 h3 h4
  go_enter Tryd.func45, Tryd.ntmps45
  go_wp2_with (first
    | (at_builtin; refine Lib.wpList_append_run _ rfl _ _ _ _ rfl _ _ rfl rfl _ _ (HC.out.1 _) ?_)
    | (refine wpList_copy_run rfl (.tmp 43) (.tmp 44) 26 26 rfl _ _ rfl rfl (HC.out.2.1 _ _) ?_))
  have hw1 : IntKind.i64.wrap ((i : Int) + 1) = (i : Int) + 1 := by rw [IntKind.wrap_i64]; omega
  have hw2 : (0 : Int) ≤ (i : Int) + 1 := by omega
  have hw3 : (i : Int) + 1 ≤ (n : Int) + 1 := by omega
  have hw4 : ((i : Int) + 1).toNat = i + 1 := by omega
  have hS : True := trivial
  refine rg_begin (fun _ => True) 9 (by kernel_rfl) rfl ?_
  refine rg_take 0 (v := ?rv16) rfl (by kernel_rfl) (by kernel_rfl) (by kernel_rfl) (fun _ _ _ h => h) (by rfl) hS (fun w2 hw2 => ?ry16) ?rr16
  case ry16 => ((try dsimp only at hw2); go_simp <;> with_reducible rfl)
  simp only [Act.put, List.setIfInBounds_toArray, List.set_cons_zero, List.set_cons_succ]
  refine rg_take 1 (v := ?rv17) rfl (by kernel_rfl) (by kernel_rfl) (by kernel_rfl) (fun _ _ _ h => h) (by rfl) hS (fun w2 hw2 => ?ry17) ?rr17
  case ry17 => ((try dsimp only at hw2); go_simp <;> with_reducible rfl)
  simp only [Act.put, List.setIfInBounds_toArray, List.set_cons_zero, List.set_cons_succ]
  refine rg_take 2 (v := ?rv18) rfl (by kernel_rfl) (by kernel_rfl) (by kernel_rfl) (fun _ _ _ h => h) (by rfl) hS (fun w2 hw2 => ?ry18) ?rr18
  case ry18 => ((try dsimp only at hw2); go_simp <;> with_reducible rfl)
  simp only [Act.put, List.setIfInBounds_toArray, List.set_cons_zero, List.set_cons_succ]
  refine rg_take 5 (v := ?rv19) rfl (by kernel_rfl) (by kernel_rfl) (by kernel_rfl) (fun _ _ _ h => h) (by rfl) hS (fun w2 hw2 => ?ry19) ?rr19
  case ry19 => ((try dsimp only at hw2); go_simp <;> with_reducible rfl)
  simp only [Act.put, List.setIfInBounds_toArray, List.set_cons_zero, List.set_cons_succ]
  refine rg_take 6 (v := ?rv20) rfl (by kernel_rfl) (by kernel_rfl) (by kernel_rfl) (fun _ _ _ h => h) (by rfl) hS (fun w2 hw2 => ?ry20) ?rr20
  case ry20 => ((try dsimp only at hw2); go_simp <;> with_reducible rfl)
  simp only [Act.put, List.setIfInBounds_toArray, List.set_cons_zero, List.set_cons_succ]
  refine rg_take 3 (v := ?rv21) rfl (by kernel_rfl) (by kernel_rfl) (by kernel_rfl) (fun _ _ _ h => h) (by rfl) hS (fun w2 hw2 => ?ry21) ?rr21
  case ry21 => ((try dsimp only at hw2); go_simp <;> with_reducible rfl)
  simp only [Act.put, List.setIfInBounds_toArray, List.set_cons_zero, List.set_cons_succ]
  refine rg_take 7 (v := ?rv22) rfl (by kernel_rfl) (by kernel_rfl) (by kernel_rfl) (fun _ _ _ h => h) (by rfl) hS (fun w2 hw2 => ?ry22) ?rr22
  case ry22 => ((try dsimp only at hw2); go_simp <;> with_reducible rfl)
  simp only [Act.put, List.setIfInBounds_toArray, List.set_cons_zero, List.set_cons_succ]
  refine rg_take 4 (v := ?rv23) rfl (by kernel_rfl) (by kernel_rfl) (by kernel_rfl) (fun _ _ _ h => h) (by rfl) hS (fun w2 hw2 => ?ry23) ?rr23
  case ry23 => ((try dsimp only at hw2); go_simp <;> with_reducible rfl)
  simp only [Act.put, List.setIfInBounds_toArray, List.set_cons_zero, List.set_cons_succ]
  refine rg_step 8 rfl (by kernel_rfl) (by rfl) (fun K hK => ?_)
  refine wp_copy_run (.tmp 50) (.tmp 53) 26 26 rfl _ _ rfl rfl (HC.out.2.2.1 _ _ _) ?_
  refine hK.out _ _ hS ?_
  clear hK K
  try simp only [Act.put, List.setIfInBounds_toArray, List.set_cons_zero, List.set_cons_succ]
  refine rg_done (by kernel_rfl) ?_
  go_wp2_with fail
  go_ret
  exact ⟨G, rfl, HC.out.2.2.2⟩
/-- slices.Insert of one entry into a row of the call's own. -/
theorem insert_any {w : World} {v : Value} {xs : List En} {x : En} {vb i : Nat} (h : EO w v xs) (hi : i ≤ xs.length) (hv : w.heap[vb]? = some (.cells #[.int .i64 x.id, .int .u64 x.at_] 45 (0, 0))) (hvb : v.ownBlock ≠ some vb) (hbig : xs.length ≤ 100000) :
    Calls Tryd.prog 45 #[v, .int .i64 i, .slice (some ⟨vb, 0, none⟩) 1 1] w fun e w' => ∃ v', e = .returned v' ∧ EO w' v' (xs.take i ++ x :: xs.drop i) ∧ w.grownBy w' v.ownBlock ∧ (v'.ownBlock = v.ownBlock ∨ v'.ownBlock = some w.heap.size) := by
  by_cases hie : i = xs.length
  · subst hie
    exact insert_end h hv hbig
  · rcases h.cases with ⟨rfl, rfl⟩ | ⟨b, c, cur, rfl, hb, hc, hm, hs, ht⟩
    · simp at hi
      exact absurd hi hie
    · by_cases hr : xs.length + 1 ≤ c
      · exact (insert_room hb rfl hr hm hs ht (by omega) hv (fun e => hvb (by rw [e]; rfl))).mono fun _ _ ⟨h1, h2, h3⟩ => ⟨_, h1, h2, h3, .inl rfl⟩
      · exact (insert_grow hb rfl hc (by omega) hbig ht (by omega) hv).mono fun _ _ ⟨G, h1, h2, h3⟩ => ⟨_, h1, h2, ⟨h3.os, h3.tape, h3.output, h3.size, fun k hk _ => h3.block k hk⟩, .inr rfl⟩
-->>
end Go.Proofs.YtdpmjbhkmfjpfaaDoor
