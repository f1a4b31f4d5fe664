/-
  What the rows of this seat share: the conditions on the library's variables as facts on their cells, and a world that meets them. No conditions.
-/
import Derived.Test.YtjegeiaabkheiaaGreatDoorKitA
import Derived.Test.YtjegeiaabkheiaaGreatDoorEnv
import Derived.Test.YtjegeiaabkheiaaGreatDoorTie
import Derived.LaidLaws
import Derived.LaidHandle
import Derived.LaidMore
import Derived.Lay
import Derived.Stop.Joined
import Derived.MakeChecks
import Derived.Shelf.Vars
import Derived.HandedShaped
import Derived.Handed
import Derived.ShapedOpen
import Derived.Test.YtjegeiaabkheiaaGreatDoorAs
namespace Go.Proofs.YtjegeiaabkheiaaGreatDoor
open Go.ChangeShapes Go.WideShapes Go.RowKit
set_option maxRecDepth 100000

/-- The listed variables that are no handles. -/
abbrev laid7 : List (String × DataW Unit) := [("math/bits.deBruijn32tab", Rows.laid_math_bits_deBruijn32tab), ("math/bits.deBruijn64tab", Rows.laid_math_bits_deBruijn64tab), ("internal/strconv.uint64pow10", Rows.laid_internal_strconv_uint64pow10), ("unicode/utf8.acceptRanges", Rows.laid_unicode_utf8_acceptRanges), ("strconv.ErrRange", Rows.laid_strconv_ErrRange), ("strconv.ErrSyntax", Rows.laid_strconv_ErrSyntax), ("unicode/utf8.first", Rows.laid_unicode_utf8_first)]
theorem laidMet_tail {P : Program} {x : String × DataW Unit} {r : List (String × DataW Unit)} {W : World} (h : laidMet P (x :: r) W) : laidMet P r W := by
  obtain ⟨ps, ⟨g, t, cs, f, p, q, h1, h2, h3, h4, h5, rfl⟩, hn, ha⟩ := h
  exact ⟨q, h5, (List.nodup_append.1 hn).2.1, fun b off hm => ha b off (List.mem_append_right _ hm)⟩
def tab64 : List Int := [0, 1, 56, 2, 57, 49, 28, 3, 61, 58, 42, 50, 38, 29, 17, 4, 62, 47, 59, 36, 45, 43, 51, 22, 53, 39, 33, 30, 24, 18, 12, 5, 63, 55, 48, 27, 60, 41, 37, 16, 46, 35, 44, 21, 52, 32, 23, 11, 54, 26, 40, 15, 34, 20, 31, 10, 25, 14, 19, 9, 13, 8, 7, 6]
theorem starS : "*" ++ "errors.errorString" = "*errors.errorString" := by decide
theorem rowErrS (u : TypeId) (h : Tryz.prog.typeName? 3 u = some "*errors.errorString") : u = 171 :=
  typeName_ptr_named (nm := "errors.errorString") (by rw [starS]; kernel_rfl) (by kernel_rfl) (by decide) u (by rw [starS]; exact h)

theorem env_of_laid {W : World} (h : laidMet Tryz.prog laid7 W) (hs : W.ShapedOpen Tryz.prog) : Env W := by
  have h1 := laidMet_tail h
  have h2 := laidMet_tail h1
  have h5 := laidMet_tail (laidMet_tail (laidMet_tail h2))
  have t64 : Lib.TabIs Tryz.prog W "math/bits.deBruijn64tab" .u8 tab64 := by
    have e : (Rows.laid_math_bits_deBruijn64tab : DataW Unit) = Lib.tabData .u8 tab64 := by kernel_rfl
    rw [e] at h1
    exact Lib.tabIs_of_head (g := 8) (t := 175) (e := 5) (n := 64) (by kernel_rfl) (by kernel_rfl) Tryz.underlying175 Tryz.underlying5 (by kernel_rfl) (by kernel_rfl) h1
  have tpow : Lib.TabIs Tryz.prog W "internal/strconv.uint64pow10" .u64 Lib.pow10Tab := by
    have e : (Rows.laid_internal_strconv_uint64pow10 : DataW Unit) = Lib.tabData .u64 Lib.pow10Tab := by kernel_rfl
    rw [e] at h2
    exact Lib.tabIs_of_head (g := 2) (t := 157) (e := 122) (n := 20) (by kernel_rfl) (by kernel_rfl) Tryz.underlying157 Tryz.underlying122 (by kernel_rfl) (by kernel_rfl) h2
  refine ⟨?_, ?_, tpow, ?_⟩
  · exact cell_of_shapedOpen_int (g := 1) (t := 3) (zero := #[.int .i64 0]) hs (of_decide_eq_true (by kernel_rfl)) (by kernel_rfl) rfl (by kernel_rfl) (by kernel_rfl) Tryz.underlying3
  · obtain ⟨ps, ⟨g, t, cs, f, p, q, hg, ht, hv, hd, _, rfl⟩, _, ha⟩ := h5
    obtain rfl := Option.some.inj ((show Tryz.prog.globalNamed "strconv.ErrSyntax" = some 3 by kernel_rfl).symm.trans hg)
    obtain rfl := Option.some.inj ((show (Tryz.prog.globals[3]?).map (·.type) = some 29 by kernel_rfl).symm.trans ht)
    have hcell := World.var?_cell hg hv 0
    obtain ⟨f1, u, v, hcs, _, _⟩ := iface_of_trod Tryz.underlying29 hd
    have hc0 : cs = #[.iface u v] := Array.eq_one_of_toList hcs
    subst hc0
    have hok := (ha 3 0 (by simp [MemPlace.row])).2
    obtain ⟨a, s, e1, _⟩ := errorString_of_trod Tryz.underlying29 rowErrS Tryz.underlying171 Tryz.underlying173 rfl rfl Tryz.underlying9 (by kernel_rfl) (by kernel_rfl) hd (fun u' v' e' => hok u' v' (by rw [hcell]; simpa using e'))
    refine ⟨a, ?_⟩
    rw [hcell]
    simpa using e1
  · exact t64.cell (by kernel_rfl) 15 (by decide)
/-- A world that meets the conditions on all but the handle. -/
noncomputable def laidWorld7 (os : Os) : World := World.laidAll Tryz.prog os laid7
theorem laidWorld7_met (os : Os) (args : Array Value) : laidMet Tryz.prog laid7 ((laidWorld7 os).forCall (fun _ _ => 0) ⟨#[], args, []⟩).memory := laidMet_laidAll _ (by kernel_rfl) (by kernel_rfl)
end Go.Proofs.YtjegeiaabkheiaaGreatDoor
