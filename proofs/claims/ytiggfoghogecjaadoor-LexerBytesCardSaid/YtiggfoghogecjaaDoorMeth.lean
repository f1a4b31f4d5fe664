/-
  CLOSED FACTS on the methods that errors.As and errors.Is call through an interface. No conditions.
-/
import Derived.Test.YtiggfoghogecjaaDoorAsFacts
namespace Go.Proofs.YtiggfoghogecjaaDoor
open Go.RowKit Go.Extern.Stop Go.Stop Go.Extern
theorem mKind (h : Value) (w : World) : (Go.method 222 72 (.agg #[h]) "Kind").run Tryd.prog w = .ok (52, h) w := by kernel_rfl
theorem mElem (h : Value) (w : World) : (Go.method 222 72 (.agg #[h]) "Elem").run Tryd.prog w = .ok (64, .agg #[h]) w := by kernel_rfl
theorem mImplements (h : Value) (w : World) : (Go.method 222 72 (.agg #[h]) "Implements").run Tryd.prog w = .ok (65, .agg #[h]) w := by kernel_rfl
theorem mAsg (h : Value) (w : World) : (Go.method 222 72 (.agg #[h]) "AssignableTo").run Tryd.prog w = .ok (62, .agg #[h]) w := by kernel_rfl
theorem mComparable (h : Value) (w : World) : (Go.method 222 72 (.agg #[h]) "Comparable").run Tryd.prog w = .ok (63, .agg #[h]) w := by kernel_rfl
theorem mUnF (a : Addr) (w : World) : (Go.method 222 48 (.pointer (some a)) "Unwrap").run Tryd.prog w = .ok (57, .pointer (some a)) w := by kernel_rfl
theorem mErF (a : Addr) (w : World) : (Go.method 222 48 (.pointer (some a)) "Error").run Tryd.prog w = .ok (56, .pointer (some a)) w := by kernel_rfl
theorem mErE (n : Int) (w : World) : (Go.method 222 28 (.int .i64 n) "Error").run Tryd.prog w = .ok (55, .int .i64 n) w := by kernel_rfl
end Go.Proofs.YtiggfoghogecjaaDoor
