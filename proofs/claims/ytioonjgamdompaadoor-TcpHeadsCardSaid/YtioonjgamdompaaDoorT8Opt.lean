/-
  Package tcp's Parse of what was built and put right again: with options, with another length of the head. Zeros put behind, as a step of a drawn region. Conditions: those of the slice.
-/
import Derived.Test.YtioonjgamdompaaDoorT8Ok
import Derived.Test.YtioonjgamdompaaDoorAppZ
namespace Go.Proofs.YtioonjgamdompaaDoor
open Go.RowKit
set_option maxRecDepth 100000

theorem mend_there {l : List UInt8} {n : Nat} (h : 20 ≤ n) : mendL false zad zad l n = mendAt (aheadL false zad zad 6 n) l 16 := by unfold mendL; rw [if_neg (by omega)]
theorem parse_opts {A : Option Addr} {n c : Nat} {w : World} {s : Sg} (hm : mayT s) (hq : 0 ≤ s.seq ∧ s.seq < 4294967296) (hk : 0 ≤ s.ack ∧ s.ack < 4294967296) (ah : List UInt8) {f : Nat} (hf : 1 ≤ f ∧ f ≤ 10) {v : UInt8} (hv : v.toNat = 16 * (5 + f)) {y0 : List UInt8} (hy0 : y0 = (tcpB ah s).take 20 ++ List.replicate (4 * f) 0 ++ (tcpB ah s).drop 20) (hN : n = 20 + 4 * f + s.pay.length) (hb : Bs w A n c (mendL false zad zad (y0.set 12 v) n)) :
    Calls Tryd.prog 7 #[.slice A n c, .agg (adv false zad), .agg (adv false zad)] w (ParT (s, ⟨0, 0, false⟩) w) := by
  have h4 := hm.2.2.2
  have k := parse_tcp hb (by omega) false false (sb := zad) (db := zad) rfl rfl
  have hl := hb.len
  rw [mend_there (by omega)] at k hl
  rw [mendAt_length] at hl
  rw [mendAt_sum _ _ (ahead_even false rfl rfl 6 n) 16 rfl (by omega), tcpv_opts hm hq hk ah _ hf hv hy0 hN] at k
  exact k
theorem parse_other {A : Option Addr} {n c : Nat} {w : World} {s : Sg} (hm : mayT s) (ah : List UInt8) {f : Nat} {v : UInt8} (hv : v.toNat = 16 * f) (hN : n = 20 + s.pay.length) (hb : Bs w A n c (mendL false zad zad ((tcpB ah s).set 12 v) n)) :
    Calls Tryd.prog 7 #[.slice A n c, .agg (adv false zad), .agg (adv false zad)] w fun e w' => ∃ sg A' n' c' v, e = .returned (.tuple #[.agg (sgv sg A' n' c'), v]) ∧ Tells w' v (if f < 5 ∨ n < 4 * f then ⟨7, 12, true⟩ else ⟨0, 0, false⟩) ∧ Below w.heap.size w w' := by
  have h4 := hm.2.2.2
  have k := parse_tcp hb (by omega) false false (sb := zad) (db := zad) rfl rfl
  have hl := hb.len
  rw [mend_there (by omega)] at k hl
  rw [mendAt_length] at hl
  rw [mendAt_sum _ _ (ahead_even false rfl rfl 6 n) 16 rfl (by omega)] at k
  refine k.mono ?_
  rintro e w' ⟨A', n', c', v, rfl, hB, t, b⟩
  rw [tcpv_other ah _ hv hN] at t
  exact ⟨_, A', n', c', v, rfl, t, b⟩
theorem Bs.first {w : World} {A : Option Addr} {n c k : Nat} {l : List UInt8} (h : Bs w A n c l) (hk : k ≤ n) : Bs w A k c (l.take k) :=
  ⟨by rw [List.length_take, h.len]; omega, Nat.le_trans hk h.cap, h.max, h.none_, fun h0 => by
    obtain ⟨b, off, e, hc⟩ := h.here (by omega)
    refine ⟨b, off, e, fun i x hx => hc i x ?_⟩
    rw [List.getElem?_take] at hx
    split at hx
    · exact hx
    · cases hx⟩
theorem wp_append_zeros {P : Program} {o : Oper} {a : Act} {w : World} {K : Act → World → Prop} {Q : Exit → Act → World → Prop} (s x : Operand) (t tn : TypeId) (ho : o.op = .call { callee := .builtin .append, args := #[s, x], argTypes := #[t, tn] })
    (base : Nat) {e : TypeId} {kn kq : IntKind} (ht : P.underlying t = some (.slice e)) (htn : P.underlying tn = some (.int kn)) (hi5 : (P.info? e).map (fun i => (i.zero, i.size, i.bytes)) = some (some (Value.int IntKind.u8 0), 1, 1))
    {v : Value} {n : Nat} {xs : List UInt8} (hs : a.eval s = v) (hown : w.ownsRow base e 1 v n (bv xs)) (hn0 : 0 < n) (k : Nat) (hx : a.eval x = .int kq k) (h0 : 0 < k) (h47 : n + k ≤ 140737488355328) (hbase : base ≤ w.heap.size)
    (h : ∀ v' w', w'.ownsRow base e 1 v' (n + k) (bv (xs ++ List.replicate k 0)) → w.grownBy w' v.ownBlock → K (a.put o.dst v') w') : o.wp P a w K Q := by
  obtain ⟨v', w', hr, h1, h2⟩ := run_append_zeros8 (P := P) base t tn o.type e kn kq ht htn hi5 hown hn0 k h0 h47 hbase
  unfold Oper.wp execOp
  simp only [ho, resolve, invoke, builtin, Sem.run_bind, Sem.run_pure, Result.andThen_ok, List.map_toArray, List.map_cons, List.map_nil, hs, hx, hr]
  exact h v' w' h1 h2
end Go.Proofs.YtioonjgamdompaaDoor
