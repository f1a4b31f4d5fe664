/-
  Package tcp's Build where it may be built; its Parse of what was built, between any addresses. Conditions: those of the slice; the numbers are such as a segment has.
-/
import Derived.Test.YtioonjgamdompaaDoorLaw8
import Derived.Test.YtioonjgamdompaaDoorT8More
namespace Go.Proofs.YtioonjgamdompaaDoor
open Go.RowKit
set_option maxRecDepth 100000

theorem build_ok {A : Option Addr} {n c : Nat} {w : World} {s : Sg} (hm : mayT s) (hb : Bs w A n c s.pay) (hq : 0 ≤ s.seq ∧ s.seq < 4294967296) (hk : 0 ≤ s.ack ∧ s.ack < 4294967296) (sv dv : Bool) {sb db : List UInt8} (hsb : sb.length = 16) (hdb : db.length = 16) :
    Calls Tryd.prog 10 #[.agg (sgv s A n c), .agg (adv sv sb), .agg (adv dv db)] w fun e w' => ∃ A' c', e = .returned (.tuple #[.slice A' (20 + n) c', .nilIface]) ∧ Bs w' A' (20 + n) c' (tcpB (aheadL sv sb db 6 (20 + n)) s) ∧ Below w.heap.size w w' := by
  refine (build_tcp hb hq hk sv dv hsb hdb).mono ?_
  rintro e w' ⟨A', n', c', v, rfl, hB, t, b⟩
  unfold blde at t
  unfold bldv at hB
  rw [if_pos hm] at t hB
  obtain rfl := Tells.none' t rfl
  obtain rfl : n' = 20 + n := by rw [← hB.len, tcpB_length, hb.len]
  exact ⟨A', c', rfl, hB, b⟩
/-- .. between other addresses: its sum is wrong, or it is the same. -/
theorem parse_else {A : Option Addr} {n c : Nat} {w : World} {s : Sg} {sv dv : Bool} {sb db : List UInt8} (hsb : sb.length = 16) (hdb : db.length = 16) (hm : mayT s) (hq : 0 ≤ s.seq ∧ s.seq < 4294967296) (hk : 0 ≤ s.ack ∧ s.ack < 4294967296) (ah : List UInt8) (hn : n = 20 + s.pay.length) (hb : Bs w A n c (tcpB ah s)) :
    Calls Tryd.prog 7 #[.slice A n c, .agg (adv sv sb), .agg (adv dv db)] w (ParT (if cks (aheadL sv sb db 6 n ++ tcpB ah s) ≠ 0 then (.zero, ⟨8, 16, true⟩) else (s, ⟨0, 0, false⟩)) w) := by
  have h4 := hm.2.2.2
  have k := parse_tcp hb (by omega) sv dv hsb hdb
  rw [tcpv_built hm hq hk ah _ hn] at k
  exact k
end Go.Proofs.YtioonjgamdompaaDoor
