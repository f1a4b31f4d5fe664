/-
  
-/
import Derived.Test.YtoagfmonfgagbaaGreatDoorZ49
import Derived.Test.YtoagfmonfgagbaaGreatDoorZ50
import Derived.Test.YtoagfmonfgagbaaGreatDoorZ48
namespace Go.Proofs.YtoagfmonfgagbaaGreatDoor
open Go.RowKit
set_option maxRecDepth 100000
def Keep (w : World) (g : Nat) (v1 v2 : Value) (x : Rs19) : Prop := RsBox w g v1 v2 ∧ A9O w 0 v1 x.servers ∧ RwO w 0 v2 (x.rules.map rwR)
theorem Keep.later {w w' : World} {g : Nat} {v1 v2 : Value} {x : Rs19} (h : Keep w g v1 v2 x) (hb : Below w.heap.size w w') : Keep w' g v1 v2 x := ⟨(hb.block g (lt_blk h.1)).trans h.1, h.2.1.later hb, h.2.2.later hb⟩
theorem Keep.text {w : World} {g : Nat} {v1 v2 : Value} {x : Rs19} (h : Keep w g v1 v2 x) (hr : RightR fx x) (hE : Env19 w) : Calls Tryz.prog 12 #[.agg (rsv v1 v2)] w fun e w' => e = .returned (.string (mkS (textR fx x))) ∧ Below w.heap.size w w' := by
  obtain ⟨A1, c1, rfl, g1, _⟩ := A9S.of_own h.2.1
  obtain ⟨A2, c2, rfl, g2, _⟩ := RwS.of_own h.2.2
  have e := linesW_ok hr
  have K := text19 g1 g2 hE (fun u hu => by
    obtain ⟨y, hy, rfl⟩ := List.mem_map.1 hu
    exact fit_ok (hr.one y hy)) (rightW_ok hr) (by
    rw [e]
    unfold linesOf
    rw [List.length_append, List.length_map, List.length_map]
    have := hr.s20
    have := hr.r200
    omega)
  rw [e] at K
  exact K
theorem Keep.right {w : World} {g : Nat} {v1 v2 : Value} {x : Rs19} (h : Keep w g v1 v2 x) (hr : RightR fx x) (hE : Env19 w) : Calls Tryz.prog 13 #[.agg (rsv v1 v2)] w fun e w' => e = .returned (.bool true) ∧ Below w.heap.size w w' := right_parsed hr hE h.2.1 h.2.2 rfl
theorem Keep.same {w : World} {g g' : Nat} {v1 v2 v3 v4 : Value} {x : Rs19} (h : Keep w g v1 v2 x) (k : Keep w g' v3 v4 x) : Calls Tryz.prog 14 #[.agg (rsv v1 v2), .agg (rsv v3 v4)] w fun e w' => e = .returned (.bool true) ∧ Below w.heap.size w w' := by
  obtain ⟨A1, c1, rfl, g1, _⟩ := A9S.of_own h.2.1
  obtain ⟨A2, c2, rfl, g2, _⟩ := RwS.of_own h.2.2
  obtain ⟨A3, c3, rfl, g3, _⟩ := A9S.of_own k.2.1
  obtain ⟨A4, c4, rfl, g4, _⟩ := RwS.of_own k.2.2
  exact rulesSame19 g1 g3 g2 g4
end Go.Proofs.YtoagfmonfgagbaaGreatDoor

namespace Go.Proofs.YtoagfmonfgagbaaGreatDoor
open Go.RowKit
set_option maxRecDepth 100000
def nbL : List UInt8 := [32, 35, 32, 110, 111, 116, 104, 105, 110, 103, 10, 10]
def nbs : Nat → List UInt8
  | 0 => []
  | k + 1 => nbs k ++ nbL
theorem nbs_len : ∀ k : Nat, (nbs k).length = 12 * k
  | 0 => rfl
  | k + 1 => by
    rw [nbs, List.length_append, nbs_len k]
    show 12 * k + 12 = _
    omega
theorem nb_chunk : Chunk nbL [[], []] := by
  have h := (chunk_note [32, 110, 111, 116, 104, 105, 110, 103] (by decide)).append chunk_end
  exact h
theorem nbs_chunk : ∀ k : Nat, Chunk (nbs k) (List.replicate (2 * k) [])
  | 0 => Chunk.nil
  | k + 1 => by
    have h := (nbs_chunk k).append nb_chunk
    have e : List.replicate (2 * (k + 1)) ([] : List (List UInt8)) = List.replicate (2 * k) [] ++ [[], []] := by
      rw [show 2 * (k + 1) = 2 * k + 2 by omega, ← List.replicate_append_replicate]
      rfl
    rw [e]
    exact h
theorem right_rules {y : Rs19} (h : RightR fx y) : RightR fx (⟨[], y.rules⟩ : Rs19) := ⟨Nat.zero_le _, (fun a h => by cases h), List.nodup_nil, h.r200, h.one⟩
theorem lines_textV {x y : Rs19} (hx : RightR fx x) (hy : RightR fx y) (hn : x.rules.length + y.rules.length ≤ 200) (k : Nat) : textV (textR fx x ++ nbs k ++ textR fx (⟨[], y.rules⟩ : Rs19)) = .inr ⟨x.servers, x.rules ++ y.rules⟩ := by
  have hc := ((chunk_text fx_ok hx).append (nbs_chunk k)).append (chunk_text fx_ok (right_rules hy))
  obtain ⟨ts, h1, h2⟩ := chunk_parse hc (fold_lines fx_ok hx hy hn (2 * k))
  unfold textV
  rw [h1]
  exact h2
theorem text_long {x : Rs19} (h : RightR fx x) (h1 : x.servers.length ≤ 5) (h2 : x.rules.length ≤ 20) (h3 : cost x ≤ 1300) : (textR fx x).length ≤ 3090 := by
  have := text_len fx_ta fx_tn h
  omega
theorem textO {w : World} {v1 v2 : Value} {x : Rs19} (k1 : A9O w 0 v1 x.servers) (k2 : RwO w 0 v2 (x.rules.map rwR)) (hr : RightR fx x) (hE : Env19 w) : Calls Tryz.prog 12 #[.agg (rsv v1 v2)] w fun e w' => e = .returned (.string (mkS (textR fx x))) ∧ Below w.heap.size w w' := by
  obtain ⟨A1, c1, rfl, g1, _⟩ := A9S.of_own k1
  obtain ⟨A2, c2, rfl, g2, _⟩ := RwS.of_own k2
  have e := linesW_ok hr
  have K := text19 g1 g2 hE (fun u hu => by
    obtain ⟨y, hy, rfl⟩ := List.mem_map.1 hu
    exact fit_ok (hr.one y hy)) (rightW_ok hr) (by
    rw [e]
    unfold linesOf
    rw [List.length_append, List.length_map, List.length_map]
    have := hr.s20
    have := hr.r200
    omega)
  rw [e] at K
  exact K
theorem rwC_cons (t : Rw) (xs : List Rw) : rwC (t :: xs) = (rwv t).toList ++ rwC xs := by simp [rwC, rwL, Value.cells]
theorem rwC_cat (xs ys : List Rw) : rwC (xs ++ ys) = rwC xs ++ rwC ys := by simp [rwC, rwL]
theorem rwC_inv : ∀ {xs : List Rw}, (∀ r ∈ xs, Rw.ok r) → ∀ {j : Nat} {u : Value}, (rwC xs)[j]? = some u → ∃ i r t, xs[i]? = some t ∧ (rwv t).toList[r]? = some u ∧ j = i * 24 + r
  | [], _, j, u, h => by simp [rwC, rwL] at h
  | t :: xs, hk, j, u, h => by
    have hs : (rwv t).toList.length = 24 := by rw [Array.length_toList]; exact rwv_size (hk t (List.mem_cons_self ..))
    rw [rwC_cons] at h
    by_cases hj : j < 24
    · rw [List.getElem?_append_left (by omega)] at h
      exact ⟨0, j, t, rfl, h, by omega⟩
    · rw [List.getElem?_append_right (by omega), hs] at h
      obtain ⟨i, r, t', h1, h2, h3⟩ := rwC_inv (fun r hr => hk r (List.mem_cons_of_mem _ hr)) h
      exact ⟨i + 1, r, t', h1, h2, by omega⟩
theorem RwS.cells {w : World} {ad : Addr} {n c : Nat} {xs : List Rw} (h : RwS w (some ad) n c xs) : ∀ j u, (rwC xs)[j]? = some u → w.cell? (ad.add j) = some u := fun j u hj => by
  obtain ⟨i, r, t, h1, h2, h3⟩ := rwC_inv h.ok hj
  obtain ⟨b, off, e, hr⟩ := h.here i t h1
  cases e
  rw [add_plain, h3, ← Nat.add_assoc]
  exact hr r u h2
section
variable {ops : Array Oper} {rest : List Oper} {o : Oper} {a : Act} {w : World} {Q : Exit → Act → World → Prop}
theorem wp_cat_rw {K : Act → World → Prop} (s x : Operand)
    (ho : o.op = .call { callee := .builtin .append, args := #[s, x], argTypes := #[23, 23] }) (base : Nat) (v0 : Value) (xs : List Rw) (hs : a.eval s = v0) (hR : RwO w base v0 xs)
    {A : Option Addr} {n c : Nat} {ys : List Rw} (hx : a.eval x = .slice A n c) (hy : RwS w A n c ys) (hm : xs.length + n ≤ 1000000) (hbase : base ≤ w.heap.size)
    (h : ∀ v' w', RwO w' base v' (xs ++ ys) → w.grownBy w' v0.ownBlock → (v'.ownBlock = v0.ownBlock ∨ v'.ownBlock = some w.heap.size) → K (a.put o.dst v') w') : o.wp Tryz.prog a w K Q := by
  obtain ⟨i, h1, h2, h3, h4⟩ := info_of18 infoRw
  cases A with
  | none =>
    obtain rfl := hy.none_ rfl
    obtain rfl : n = 0 := by have := hy.cap; omega
    obtain rfl := List.eq_nil_of_length_eq_zero hy.len
    have hrun := run_append_owned_none (P := Tryz.prog) (w := w) base 23 o.type 55 i 24 Tryz.underlying23 h1 v0 xs.length (rwC xs) hR.1
    unfold Oper.wp execOp
    simp only [ho, resolve, invoke, builtin, Sem.run_bind, Sem.run_pure, Result.andThen_ok, List.map_toArray, List.map_cons, List.map_nil, hs, hx, hrun]
    exact h _ w (by rw [List.append_nil]; exact hR) ⟨rfl, rfl, rfl, Nat.le_refl _, fun _ _ _ => rfl⟩ (.inl rfl)
  | some ad =>
    refine wp_append_at w s x 23 ho base 55 i _ 24 88 Tryz.underlying23 h1 h2 h3 h4 (by kernel_rfl) (by decide) v0 xs.length (rwC xs) hs hR.1 ad n c (rwC ys) hx (by rw [rwC_len hy.ok, hy.len]) hy.cells (fun u hu => ?_) (by unfold maxLen; omega) (by omega) hbase ?_
    · unfold rwC rwL at hu
      obtain ⟨v', hv', hu'⟩ := List.mem_flatMap.1 hu
      obtain ⟨t, ht, rfl⟩ := List.mem_map.1 hv'
      exact (Array.all_eq_true'.1 (rwv_one (hy.ok t ht))) u (by simpa [Value.cells] using hu')
    · intro v' w' o' g' _ hat
      refine h v' w' ⟨?_, fun r hr => ?_⟩ g' hat
      · rw [rwC_cat, List.length_append, hy.len]
        exact o'
      · rcases List.mem_append.1 hr with hr | hr
        · exact hR.2 r hr
        · exact hy.ok r hr
theorem run_build_rs3 (A : Option Addr) (n c : Nat) (B : Option Addr) (m d : Nat) (w : World) : (Instr.build 25 #[(0, .slice A n c), (1, .slice B m d)]).run Tryz.prog w = .ok (.agg (rsv (.slice A n c) (.slice B m d))) w := by kernel_rfl
theorem wp_build_rs3 {K : Act → World → Prop} (x y : Operand) (ho : o.op = .build 25 #[(0, x), (1, y)]) (A : Option Addr) (n c : Nat) (B : Option Addr) (m d : Nat) (hx : a.eval x = .slice A n c) (hy : a.eval y = .slice B m d)
    (h : K (a.put o.dst (.agg (rsv (.slice A n c) (.slice B m d)))) w) : o.wp Tryz.prog a w K Q := by
  have hrun := run_build_rs3 A n c B m d w
  unfold Oper.wp execOp
  simp only [ho, Sem.run_bind, Sem.run_pure, Result.andThen_ok, List.map_toArray, List.map_cons, List.map_nil, hx, hy, hrun]
  exact h
end
end Go.Proofs.YtoagfmonfgagbaaGreatDoor
