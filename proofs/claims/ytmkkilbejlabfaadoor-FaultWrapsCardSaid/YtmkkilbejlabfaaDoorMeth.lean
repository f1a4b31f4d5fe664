/-
  CLOSED FACTS on the methods that errors.As and errors.Is call through an interface. No conditions.
-/
import Derived.Test.YtmkkilbejlabfaaDoorAsFacts
namespace Go.Proofs.YtmkkilbejlabfaaDoor
open Go.RowKit Go.Extern.Stop Go.Stop Go.Extern
theorem mKind (h : Value) (w : World) : (Go.method 219 74 (.agg #[h]) "Kind").run Tryd.prog w = .ok (45, h) w := by kernel_rfl
theorem mElem (h : Value) (w : World) : (Go.method 219 74 (.agg #[h]) "Elem").run Tryd.prog w = .ok (60, .agg #[h]) w := by kernel_rfl
theorem mImplements (h : Value) (w : World) : (Go.method 219 74 (.agg #[h]) "Implements").run Tryd.prog w = .ok (61, .agg #[h]) w := by kernel_rfl
theorem mAsg (h : Value) (w : World) : (Go.method 219 74 (.agg #[h]) "AssignableTo").run Tryd.prog w = .ok (58, .agg #[h]) w := by kernel_rfl
theorem mComparable (h : Value) (w : World) : (Go.method 219 74 (.agg #[h]) "Comparable").run Tryd.prog w = .ok (59, .agg #[h]) w := by kernel_rfl
theorem mUnF (a : Addr) (w : World) : (Go.method 219 44 (.pointer (some a)) "Unwrap").run Tryd.prog w = .ok (50, .pointer (some a)) w := by kernel_rfl
theorem mUnJ (a : Addr) (w : World) : (Go.method 219 57 (.pointer (some a)) "Unwrap").run Tryd.prog w = .ok (52, .pointer (some a)) w := by kernel_rfl
theorem mErF (a : Addr) (w : World) : (Go.method 219 44 (.pointer (some a)) "Error").run Tryd.prog w = .ok (49, .pointer (some a)) w := by kernel_rfl
theorem mErE (n : Int) (w : World) : (Go.method 219 22 (.int .i64 n) "Error").run Tryd.prog w = .ok (48, .int .i64 n) w := by kernel_rfl
end Go.Proofs.YtmkkilbejlabfaaDoor
