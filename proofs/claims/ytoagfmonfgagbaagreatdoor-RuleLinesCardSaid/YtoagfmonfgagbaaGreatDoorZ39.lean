/-
  
-/
import Derived.Test.YtoagfmonfgagbaaGreatDoorZ21
import Derived.Test.YtoagfmonfgagbaaGreatDoorZ37
import Derived.Deep.SlicePairs
namespace Go.Proofs.YtoagfmonfgagbaaGreatDoor
open Go.ChangeShapes Go.WideShapes Go.RowKit
set_option maxRecDepth 100000
abbrev laidR : List (String × DataW Unit) := [("math/bits.deBruijn32tab", Rows.laid_math_bits_deBruijn32tab), ("math/bits.deBruijn64tab", Rows.laid_math_bits_deBruijn64tab), ("internal/strconv.uint64pow10", Rows.laid_internal_strconv_uint64pow10), ("unicode/utf8.acceptRanges", Rows.laid_unicode_utf8_acceptRanges), ("strconv.ErrRange", Rows.laid_strconv_ErrRange), ("strconv.ErrSyntax", Rows.laid_strconv_ErrSyntax), ("stockade/rule.protocols", Rows.laid_stockade_rule_protocols), ("unicode/utf8.first", Rows.laid_unicode_utf8_first)]
section
variable {H : Type} {enc : TypeId × Value → H} {P : Program} {w : World} {base : Nat} {spare : Nat → Bool} {held : Bool}
theorem trod_str19 {t : TypeId} (ht : P.underlying t = some .string) {fuel : Nat} {v : Value} {l : List UInt8} {ps : List MemPlace} (h : DataW.trod enc P w base spare held fuel t [v] = some (.lit (.string l), ps)) : v = .string (mkS l) := by
  cases fuel with
  | zero => simp [DataW.trod] at h
  | succ n =>
    unfold DataW.trod at h
    rw [ht] at h
    cases v with
    | string s =>
      simp only at h
      split at h
      · simp only [Option.some.injEq, Prod.mk.injEq, DataW.lit.injEq, Lit.string.injEq] at h
        rw [← h.1]
        obtain ⟨d⟩ := s
        rfl
      · cases h
    | _ => simp at h
theorem trod_int19 {t : TypeId} {k : IntKind} (ht : P.underlying t = some (.int k)) {fuel : Nat} {v : Value} {z : Int} {ps : List MemPlace} (h : DataW.trod enc P w base spare held fuel t [v] = some (.lit (.int k z), ps)) : v = .int k z := by
  cases fuel with
  | zero => simp [DataW.trod] at h
  | succ n =>
    unfold DataW.trod at h
    rw [ht] at h
    cases v with
    | int k2 z2 =>
      simp only at h
      split at h
      · rename_i hc
        simp only [Option.some.injEq, Prod.mk.injEq, DataW.lit.injEq, Lit.int.injEq] at h
        rw [hc.1, h.1.2]
      · cases h
    | _ => simp at h
end
theorem env19_of_laid {W : World} (h : laidMet Tryz.prog laidR W) (hs : W.ShapedOpen Tryz.prog) : Env19 W := by
  have h1 := laidMet_tail h
  have h2 := laidMet_tail h1
  have h4 := laidMet_tail (laidMet_tail h2)
  have h5 := laidMet_tail h4
  have h6 := laidMet_tail h5
  have t64 : Lib.TabIs Tryz.prog W "math/bits.deBruijn64tab" .u8 tab64 := by
    have e : (Rows.laid_math_bits_deBruijn64tab : DataW Unit) = Lib.tabData .u8 tab64 := by kernel_rfl
    rw [e] at h1
    exact Lib.tabIs_of_head (g := 5) (t := 230) (e := 5) (n := 64) (by kernel_rfl) (by kernel_rfl) Tryz.underlying230 Tryz.underlying5 (by kernel_rfl) (by kernel_rfl) h1
  have tpow : Lib.TabIs Tryz.prog W "internal/strconv.uint64pow10" .u64 Lib.pow10Tab := by
    have e : (Rows.laid_internal_strconv_uint64pow10 : DataW Unit) = Lib.tabData .u64 Lib.pow10Tab := by kernel_rfl
    rw [e] at h2
    exact Lib.tabIs_of_head (g := 3) (t := 206) (e := 189) (n := 20) (by kernel_rfl) (by kernel_rfl) Tryz.underlying206 Tryz.underlying189 (by kernel_rfl) (by kernel_rfl) h2
  refine ⟨⟨?_, ?_, tpow, ?_⟩, ?_, ?_⟩
  · exact cell_of_shapedOpen_int (g := 2) (t := 3) (zero := #[.int .i64 0]) hs (of_decide_eq_true (by kernel_rfl)) (by kernel_rfl) rfl (by kernel_rfl) (by kernel_rfl) Tryz.underlying3
  · obtain ⟨ps, ⟨g, t, cs, f, p, q, hg, ht, hv, hd, _, rfl⟩, _, ha⟩ := h5
    obtain rfl := Option.some.inj ((show Tryz.prog.globalNamed "strconv.ErrSyntax" = some 6 by kernel_rfl).symm.trans hg)
    obtain rfl := Option.some.inj ((show (Tryz.prog.globals[6]?).map (·.type) = some 29 by kernel_rfl).symm.trans ht)
    have hcell := World.var?_cell hg hv 0
    obtain ⟨f1, u, v, hcs, _, _⟩ := iface_of_trod Tryz.underlying29 hd
    have hc0 : cs = #[.iface u v] := Array.eq_one_of_toList hcs
    subst hc0
    have hok := (ha 6 0 (by simp [MemPlace.row])).2
    obtain ⟨a, s, e1, _⟩ := errorString_of_trod Tryz.underlying29 rowErrS Tryz.underlying238 Tryz.underlying240 rfl rfl Tryz.underlying9 (by kernel_rfl) (by kernel_rfl) hd (fun u' v' e' => hok u' v' (by rw [hcell]; simpa using e'))
    refine ⟨a, ?_⟩
    rw [hcell]
    simpa using e1
  · exact t64.cell (by kernel_rfl) 15 (by decide)
  · obtain ⟨ps, ⟨g, t, cs, f, p, q, hg, ht, hv, hd, _, rfl⟩, _, _⟩ := h4
    obtain rfl := Option.some.inj ((show Tryz.prog.globalNamed "strconv.ErrRange" = some 7 by kernel_rfl).symm.trans hg)
    obtain rfl := Option.some.inj ((show (Tryz.prog.globals[7]?).map (·.type) = some 29 by kernel_rfl).symm.trans ht)
    have hcell := World.var?_cell hg hv 0
    obtain ⟨f1, u, v, hcs, _, _⟩ := iface_of_trod Tryz.underlying29 hd
    have hc0 : cs = #[.iface u v] := Array.eq_one_of_toList hcs
    subst hc0
    exact ⟨u, v, by rw [hcell]; rfl⟩
  · obtain ⟨ps, ⟨g, t, cs, f, p, q, hg, ht, hv, hd, _, rfl⟩, _, _⟩ := h6
    obtain rfl := Option.some.inj ((show Tryz.prog.globalNamed "stockade/rule.protocols" = some 1 by kernel_rfl).symm.trans hg)
    obtain rfl := Option.some.inj ((show (Tryz.prog.globals[1]?).map (·.type) = some 164 by kernel_rfl).symm.trans ht)
    have hcell := World.var?_cell hg hv 0
    have hfs : ∃ f0 f1 : Field, Tryz.prog.underlying 166 = some (.struct #[f0, f1]) ∧ f0.offset = 0 ∧ f1.offset = 1 ∧ f0.type = 9 ∧ f1.type = 3 :=
      ⟨(Tryz.prog.fieldsOf 166).toList.head!, (Tryz.prog.fieldsOf 166).toList.tail.head!, by kernel_rfl, by kernel_rfl, by kernel_rfl, by kernel_rfl, by kernel_rfl⟩
    obtain ⟨f0, f1, hu, o0, o1, y0, y1⟩ := hfs
    rcases Deep.open_slice_pairs Tryz.underlying164 hu (by kernel_rfl) o0 o1 (by rw [y0]; kernel_rfl) (by rw [y1]; kernel_rfl) hd with ⟨_, hx⟩ | ⟨a, len, cap, m, n, V0, V1, D0, D1, P0, P1, hcs, _, hl, hm, hmm, hx, hr⟩
    · exact absurd (congrArg Prod.fst hx) (by intro h; cases h)
    have hd0 := congrArg Prod.fst hx
    simp only [if_true] at hmm
    subst hmm
    have hlen : len = 4 := by
      have h := hd0
      injection h with e1 e2
      have := congrArg List.length e1
      simpa using this.symm
    subst hlen
    have hcap : m = 4 := by
      have h := hd0
      injection h with e1 e2
      have := congrArg List.length e2
      simp at this
      omega
    subst hcap
    obtain ⟨b, off, spot⟩ := a
    have hspot : spot = none := by simpa [Addr.add] using World.cell?_spot (hr 0 (by omega)).1
    subst hspot
    have hc0 : cs = #[.slice (some ⟨b, off, none⟩) 4 4] := Array.eq_one_of_toList hcs
    subst hc0
    refine ⟨b, off, by rw [hcell]; rfl, fun i q hq => ?_⟩
    have hi : i < 4 := (List.getElem?_eq_some_iff.1 hq).1
    obtain ⟨r0, r1, d0, d1⟩ := hr i hi
    rw [y0] at d0
    rw [y1] at d1
    rw [add_plain] at r0 r1
    rw [← Nat.add_assoc] at r1
    have hD : D0 i = .lit (.string q.1) ∧ D1 i = .lit (.int .i64 q.2) := by
      injection hd0 with e1 _
      have h := congrArg (fun l => l[i]?) e1
      rcases (show i = 0 ∨ i = 1 ∨ i = 2 ∨ i = 3 by omega) with rfl | rfl | rfl | rfl
      all_goals
        obtain rfl := Option.some.inj hq
        simp [List.range_succ] at h
        exact ⟨h.1.symm, h.2.symm⟩
    rw [hD.1] at d0
    rw [hD.2] at d1
    rw [r0, r1, trod_str19 Tryz.underlying9 d0, trod_int19 Tryz.underlying3 d1]
    exact ⟨rfl, rfl⟩
noncomputable def laidWorldR (os : Os) : World := World.laidAll Tryz.prog os laidR
theorem laidWorldR_met (os : Os) (args : Array Value) : laidMet Tryz.prog laidR ((laidWorldR os).forCall (fun _ _ => 0) ⟨#[], args, []⟩).memory := laidMet_laidAll _ (by kernel_rfl) (by kernel_rfl)
theorem laidWorldR_os (os : Os) : (laidWorldR os).os = os := World.laidAll_os _ _ _
theorem laidWorldR_metH (os : Os) (args : Array Value) : laidMetH Tryz.prog laidR ((laidWorldR os).forCall (fun _ _ => 0) ⟨#[], args, []⟩).memory :=
  laidMetH_of_parts (laidWorldR_met os args) (by kernel_rfl)
theorem laidWorldR_shaped (os : Os) (args : Array Value) : ((laidWorldR os).forCall (fun _ _ => 0) ⟨#[], args, []⟩).Shaped Tryz.prog := World.shaped_of_ZipB (by kernel_rfl) (by kernel_rfl)
end Go.Proofs.YtoagfmonfgagbaaGreatDoor
