/-
  A segment's box: a number stored; addresses loaded and stored as steps of a drawn region; numbers cut by a remainder. No conditions.
-/
import Derived.Test.YtioonjgamdompaaDoorSeg
namespace Go.Proofs.YtioonjgamdompaaDoor
open Go.RowKit
set_option maxRecDepth 100000

theorem SgBox.frozen {w : World} {g : Nat} {s : Sg} {A : Option Addr} {n c : Nat} (h : SgBox w g s A n c) (i : Nat) : w.frozen? ⟨g, i, none⟩ = false := by unfold SgBox at h; simp [World.frozen?, h]
theorem SgBox.putSp {w : World} {g : Nat} {sp dp seq ack fl : Int} {pay : List UInt8} {A : Option Addr} {n c : Nat} (h : SgBox w g ⟨sp, dp, seq, ack, fl, pay⟩ A n c) (v : Int) : SgBox (w.setCell ⟨g, 0, none⟩ (.int .i64 v)) g ⟨v, dp, seq, ack, fl, pay⟩ A n c := by
  unfold SgBox at h ⊢
  rw [setCell_eq_setRow w g 0 _ _ _ _ h]
  exact setRow_heap w g _ _ _ _ h
theorem SgBox.putDp {w : World} {g : Nat} {sp dp seq ack fl : Int} {pay : List UInt8} {A : Option Addr} {n c : Nat} (h : SgBox w g ⟨sp, dp, seq, ack, fl, pay⟩ A n c) (v : Int) : SgBox (w.setCell ⟨g, 1, none⟩ (.int .i64 v)) g ⟨sp, v, seq, ack, fl, pay⟩ A n c := by
  unfold SgBox at h ⊢
  rw [setCell_eq_setRow w g 1 _ _ _ _ h]
  exact setRow_heap w g _ _ _ _ h
theorem SgBox.putFl {w : World} {g : Nat} {sp dp seq ack fl : Int} {pay : List UInt8} {A : Option Addr} {n c : Nat} (h : SgBox w g ⟨sp, dp, seq, ack, fl, pay⟩ A n c) (v : Int) : SgBox (w.setCell ⟨g, 4, none⟩ (.int .i64 v)) g ⟨sp, dp, seq, ack, v, pay⟩ A n c := by
  unfold SgBox at h ⊢
  rw [setCell_eq_setRow w g 4 _ _ _ _ h]
  exact setRow_heap w g _ _ _ _ h
theorem num_mod8 (a : Int) (m : Int) (h0 : 0 < m) (h1 : m ≤ 1000000) : 0 ≤ wrap64 ((IntKind.u64.wrap a).tmod m) ∧ wrap64 ((IntKind.u64.wrap a).tmod m) < m := by
  have h : IntKind.u64.wrap a = a % 18446744073709551616 := rfl
  have h2 : 0 ≤ IntKind.u64.wrap a := by rw [h]; omega
  rw [Int.tmod_eq_emod_of_nonneg h2]
  have h3 := Int.emod_nonneg (IntKind.u64.wrap a) (show m ≠ 0 by omega)
  have h4 := Int.emod_lt_of_pos (IntKind.u64.wrap a) h0
  generalize IntKind.u64.wrap a % m = x at h3 h4
  unfold wrap64
  omega
theorem wp_load_ad {o : Oper} {a : Act} {w : World} {K : Act → World → Prop} {Q : Exit → Act → World → Prop} (x : Operand) (ho : o.op = .load 25 x) {g : Nat} {v6 : Bool} {bs : List UInt8} (hx : a.eval x = .pointer (some ⟨g, 0, none⟩)) (hA : AdBox w g v6 bs)
    (h : K (a.put o.dst (.agg (adv v6 bs))) w) : o.wp Tryd.prog a w K Q :=
  wp_load_mid (P := Tryd.prog) 25 x ho g 0 hx (adv v6 bs).toList _ hA.range Tryd.underlying25 rfl (by simpa using ad_size v6 hA.2) (by simpa using h)
theorem wp_store_adF {o : Oper} {a : Act} {w : World} {K : Act → World → Prop} {Q : Exit → Act → World → Prop} (x y : Operand) (ho : o.op = .store 25 x y) {g : Nat} {v6 v0 : Bool} {bs b0 : List UInt8}
    (hx : a.eval x = .pointer (some ⟨g, 0, none⟩)) (hy : a.eval y = .agg (adv v6 bs)) (hl : bs.length = 16) (hA : AdBox w g v0 b0)
    (h : ∀ w', AdBox w' g v6 bs → (∀ k, k ≠ g → w'.heap[k]? = w.heap[k]?) → (∀ B w0, B ≤ g → Below B w0 w → Below B w0 w') → K (a.put o.dst undef) w') : o.wp Tryd.prog a w K Q :=
  wp_store_row 25 x y ho g (adv v6 bs) hx hy 25 _ hA.1 (ad_size v6 hl) (by rw [adv_size v0 hA.2, adv_size v6 hl]) (adv_one v6 bs)
    (h _ ⟨setRow_heap w g _ _ _ _ hA.1, hl⟩ (fun k hk => setRow_other w g k _ hk) (fun _ _ hB hb => below_setRow hb hB _))
end Go.Proofs.YtioonjgamdompaaDoor
