/-
  Package ip6's address: sixteen bytes copied out of a slice into an address. Conditions: those of the slice, and that they are there.
-/
import Derived.Test.YtceigepclemdmaaDoorSpec7
import Derived.Test.YtceigepclemdmaaDoorAdrL
import Derived.Test.YtceigepclemdmaaDoorReg
namespace Go.Proofs.YtceigepclemdmaaDoor
open Go.RowKit
set_option maxRecDepth 100000

theorem infoU8 : (Tryd.prog.info? 5).map (·.size) = some 1 := by kernel_rfl
theorem adv_laid (v6 : Bool) {b0 bs : List UInt8} (h0 : b0.length = 16) (h : bs.length = 16) : ((adv v6 b0).toList.take 1 ++ bv bs ++ (adv v6 b0).toList.drop (1 + (bv bs).length)).toArray = adv v6 bs := by
  rw [bv_length, h, List.drop_of_length_le (by simp [adv, bv_length, h0])]
  simp [adv]
theorem wp_copy_ad {o : Oper} {a : Act} {w : World} {K : Act → World → Prop} {Q : Exit → Act → World → Prop} (d s : Operand) (T : TypeId) (ho : o.op = .call { callee := .builtin .copy, args := #[d, s], argTypes := #[T, T] }) (hu : Tryd.prog.underlying T = some (.slice 5))
    {g : Nat} {v6 : Bool} {b0 : List UInt8} {A : Option Addr} {n c : Nat} {l : List UInt8} (hd : a.eval d = .slice (some ⟨g, 1, none⟩) 16 16) (hs : a.eval s = .slice A n c) (hb : Bs w A n c l) (hn : 16 ≤ n) (hA : AdBox w g v6 b0)
    (h : ∀ w', AdBox w' g v6 (l.take 16) → (∀ k, k ≠ g → w'.heap[k]? = w.heap[k]?) → (∀ B w0, B ≤ g → Below B w0 w → Below B w0 w') → K (a.put o.dst (goInt 16)) w') : o.wp Tryd.prog a w K Q := by
  obtain ⟨b, off, rfl, hc⟩ := hb.here (by omega)
  have hl : (l.take 16).length = 16 := by rw [List.length_take, hb.len]; omega
  have hrun := run_copy_row (P := Tryd.prog) w T T o.type 5 g 1 16 16 ⟨b, off, none⟩ n c (adv v6 b0) 25 (bv (l.take 16)) hu infoU8 hA.1 (by rw [bv_length, hl]; show 16 = min n 16; omega) (fun j u hj => by
    obtain ⟨y, hy, rfl⟩ := bv_get hj
    rw [List.getElem?_take] at hy
    split at hy
    · rw [add_plain]; exact hc j y hy
    · cases hy) (by rw [bv_length, hl, adv_size v6 hA.2]; omega) (bv_one _)
  rw [adv_laid v6 hA.2 hl, bv_length, hl] at hrun
  unfold Oper.wp execOp
  simp only [ho, resolve, invoke, builtin, Sem.run_bind, Sem.run_pure, Result.andThen_ok, List.map_toArray, List.map_cons, List.map_nil, hd, hs, hrun]
  exact h _ ⟨setRow_heap w g _ _ _ _ hA.1, hl⟩ (fun k hk => setRow_other w g k _ hk) (fun B w0 hB hb => below_setRow hb hB _)

set_option maxHeartbeats 1000000 in
theorem address_any {A : Option Addr} {n c : Nat} {l : List UInt8} {w : World} (hb : Bs w A n c l) (i : Nat) (hi : i + 16 ≤ n) : Calls Tryd.prog 21 #[.slice A n c, .int .i64 i] w fun e w' => e = .returned (.agg (adv true ((l.drop i).take 16))) ∧ Below w.heap.size w w' := by
  have hm := Nat.le_trans hb.cap hb.max
  have hcap := hb.cap
  have hmax := hb.max
  unfold maxLen at hm hmax
  obtain ⟨b, off, rfl, _⟩ := hb.here (by omega)
  have hcut := hb.cut (i := i) (k := n - i) (by omega) (A' := some ⟨b, off + i, none⟩) (fun _ => by simp [add_plain]) (by simp)
  rw [List.take_of_length_le (by rw [List.length_drop, hb.len]; exact Nat.le_refl _)] at hcut
  have HB := Lib.hid hcut
  have q1 : (i : Int) ≤ (c : Int) := by omega
  have q2 : (i : Int) ≤ (n : Int) := by omega
  have q3 : ¬ c = i := by omega
  clear hb hcut
  go_enter Tryd.func21, Tryd.ntmps21
  go_wp2_with (first
    | (refine wpList_store_ad rfl (.tmp 5) (.tmp 6) rfl true (List.replicate 16 0) rfl rfl rfl H2.out.2.1 ?_; intro w3 a3 o3 z3 b3; have H3 := Lib.hid (And.intro (H1.out.1.later (b3 _ _ (Nat.le_refl _) H2.out.2.2.2) (Nat.le_refl _)) (And.intro a3 (b3 w.heap.size w H1.out.2.size H2.out.2.2.1))); clear a3 o3 z3 b3)
    | (have hq := H1.out.2; refine wpList_alloc_ad rfl rfl ?_; intro w2 a2 b2 z2; have H2 := Lib.hid (And.intro (H1.out.1.later b2 (Nat.le_refl _)) (And.intro a2 (And.intro (H1.out.2.trans (b2.mono H1.out.2.size)) b2))); clear a2 b2 z2 hq)
    | (refine wpList_alloc_ad rfl rfl ?_; intro w1 a1 b1 z1; have H1 := Lib.hid (And.intro a1 b1); clear a1 b1 z1))
  have hS : Below w.heap.size w w3.drew := H3.out.2.2.drew
  have hD : Below w3.heap.size w3 w3.drew := (Below.refl _ _).drew
  refine rg_begin (fun w' => Below w.heap.size w w') 6 (by kernel_rfl) rfl ?_
  refine rg_take 0 (v := ?rv1) rfl (by kernel_rfl) (by kernel_rfl) (by kernel_rfl) (fun _ _ _ h => h) (by rfl) hS (fun w2 hw2 => ?ry1) ?rr1
  case ry1 => ((try dsimp only at hw2); go_simp <;> with_reducible rfl)
  simp only [Act.put, List.setIfInBounds_toArray, List.set_cons_zero, List.set_cons_succ]
  refine rg_take 1 (v := ?rv2) rfl (by kernel_rfl) (by kernel_rfl) (by kernel_rfl) (fun _ _ _ h => h) (by rfl) hS (fun w2 hw2 => ?ry2) ?rr2
  case ry2 => ((try dsimp only at hw2); go_simp <;> with_reducible rfl)
  simp only [Act.put, List.setIfInBounds_toArray, List.set_cons_zero, List.set_cons_succ]
  refine rg_take 2 (v := ?rv3) rfl (by kernel_rfl) (by kernel_rfl) (by kernel_rfl) (fun _ _ _ h => h) (by rfl) hS (fun w2 hw2 => ?ry3) ?rr3
  case ry3 => ((try dsimp only at hw2); go_simp <;> with_reducible rfl)
  simp only [Act.put, List.setIfInBounds_toArray, List.set_cons_zero, List.set_cons_succ]
  refine rg_take 3 (v := ?rv4) rfl (by kernel_rfl) (by kernel_rfl) (by kernel_rfl) (fun _ _ _ h => h) (by rfl) hS (fun w2 hw2 => ?ry4) ?rr4
  case ry4 => ((try dsimp only at hw2); go_simp <;> with_reducible rfl)
  simp only [Act.put, List.setIfInBounds_toArray, List.set_cons_zero, List.set_cons_succ]
  refine rg_take 4 (v := ?rv5) rfl (by kernel_rfl) (by kernel_rfl) (by kernel_rfl) (fun _ _ _ h => h) (by rfl) hS (fun w2 hw2 => ?ry5) ?rr5
  case ry5 => ((try dsimp only at hw2); go_simp <;> with_reducible rfl)
  simp only [Act.put, List.setIfInBounds_toArray, List.set_cons_zero, List.set_cons_succ]
  refine rg_step 5 rfl (by kernel_rfl) (by rfl) (fun K hK => ?_)
  refine wp_copy_ad (.tmp 8) (.tmp 11) 22 rfl Tryd.underlying22 rfl rfl (HB.out.later hS (Nat.le_refl _)) (by omega) (H3.out.2.1.later hD (Nat.le_refl _)) ?_
  intro w5 a5 o5 b5
  have a4 : AdBox w5 w.heap.size false (List.replicate 16 0) := (H3.out.1.later hD (Nat.le_refl _)).same (o5 _ (Nat.ne_of_lt H1.out.1.lt))
  replace hS := b5 _ _ H1.out.2.size hS
  have H5 := Lib.hid (And.intro a4 a5)
  clear a4 a5 o5 b5 hD
  refine hK.out _ _ hS ?_
  clear hK K
  try simp only [Act.put, List.setIfInBounds_toArray, List.set_cons_zero, List.set_cons_succ]
  refine rg_done (by kernel_rfl) ?_
  have H6 := Lib.hid hS
  clear hS
  go_wp2_with (first
    | (refine wpList_load_ad rfl (.tmp 5) rfl rfl H5.out.2 ?_)
    | (refine wpList_store_row rfl 25 (.tmp 4) (.tmp 13) rfl w.heap.size _ rfl rfl 25 _ H5.out.1.1 (ad_size _ H5.out.2.2) (by rw [adv_size _ H5.out.1.2, adv_size _ H5.out.2.2]) (adv_one _ _) ?_))
  exact bodyPost_ret (v := .agg (adv true ((l.drop i).take 16))) (results_cell_row rfl _ _ w.heap.size 25 _ (0, 0) _ rfl (setRow_heap _ _ _ _ _ _ H5.out.1.1) Tryd.underlying25 rfl (ad_size _ H5.out.2.2)) rfl ⟨rfl, below_setRow H6.out (Nat.le_refl _) _⟩
end Go.Proofs.YtceigepclemdmaaDoor
